import Derived.Test.YtnonoiafongllaaGreatDoorL
import Derived.Conc.WgGenN2
open Nat (le_of_lt le_refl le_trans lt_of_le_of_lt lt_of_lt_of_le lt_or_ge not_lt_zero zero_le)
open List
namespace Px
open Go Go.Conc
abbrev aR:=Goroutine->World->(Nat->Prop)->Prop
inductive bW
 | run (m:Bool) (S:aR) (g:Goroutine) (w:World) (O:Nat->Prop)
 | idle (g:Goroutine) (w:World) (O:Nat->Prop)
 | quit (q:Nat)
def bW.own:bW->Nat->Prop
 | .run _ _ _ _ O=>O
 | .idle _ _ O=>O
 | .quit _=>λ_=>False
section
variable {P:Program} {Ro:Nat->Prop}
inductive Jq (P:Program) (Ro:Nat->Prop):bW->bW->Prop
 | step {m:Bool} {S:aR} {g g':Goroutine} {w w₁ w':World} {O:Nat->Prop} {es:Array Event}:(¬ ∀w₁,Keep Ro O w w₁->S g w₁ O)->Keep Ro O w w₁->stepG P m g w₁ = .go g' w' es->Jq P Ro (.run m S g' w' (grow O w₁ w')) (.run m S g w O)
 | pW {m:Bool} {S:aR} {g g':Goroutine} {w w':World} {O O':Nat->Prop}:Jq P Ro (.idle g' w' O') (.run m S g w O)
 | quit {q:Nat}:Jq P Ro (.quit q) (.quit (q+1))
theorem vW{g:Goroutine}{w:World}{O:Nat->Prop}:Acc (Jq P Ro) (.idle g w O):=⟨_,λ_ h=>nomatch h⟩
theorem LC(q:Nat):Acc (Jq P Ro) (.quit q):=by
 induction q with
 | zero=>exact⟨_,λ_ h=>nomatch h⟩
 | succ q ih=>exact⟨_,λ_ h=>by cases h;exact ih⟩
theorem Runs.acc{m:Bool}{S:aR}{g:Goroutine}{w:World}{O:Nat->Prop}(h:Runs P m Ro S g w O):Acc (Jq P Ro) (.run m S g w O):=by
 induction h with
 | stop h=>
  refine⟨_,λr hr=>?_⟩;cases hr with
  | step hn _ _=>exact absurd h hn
  | pW=>exact vW
 | step h1 h2 ih=>
  refine⟨_,λr hr=>?_⟩;cases hr with
  | step _ hk hs=>exact ih _ _ _ _ hk hs
  | pW=>exact vW
end
inductive LL {α:Type _} (R:α->α->Prop):List α->List α->Prop
 | mk {l:List α} {j:Nat} {r r':α}:l[j]? = some r->R r' r->LL R (l.set j r') l
theorem WE{H:Type _}{R:H->H->Prop}{a:H}(U:Acc R a):∀ {l:List H},Acc (LL R) l->Acc (LL R) (a::l):=by
 induction U with
 | intro a _ J=>
  intro l hl;induction hl with
  | intro l I M=>
   refine⟨_,λl' h=>?_⟩;generalize e:a::l=x at h;cases h with
   | @mk _ j r r' hj hr=>
    subst e;cases j with
    | zero=>
     simp only[List.getElem?_cons_zero,Option.some.injEq] at hj;subst hj;exact J _ hr ⟨l,I⟩
    | succ j=>
     simp only[List.getElem?_cons_succ] at hj;exact M _ ⟨hj,hr⟩
theorem EX{H:Type _}{R:H->H->Prop}:∀ {l:List H},(∀r∈l,Acc R r)->Acc (LL R) l
 | [],_=>⟨_,λ_ h=>by
   generalize e:([]:List H)=x at h;cases h with
   | mk hj _=>subst e;simp at hj⟩
 | a::l,h=>WE (h a (mem_cons_self ..)) (EX λr hr=>h r (mem_cons_of_mem _ hr))
def dP(rl:List bW)(j b:Nat):Prop:=∃r,rl[j]? = some r/\r.own b
theorem pX{rl:List bW}{j:Nat}{r:bW}(e:j<rl.length):dP (rl.set j r)=λk b=>(k=j/\r.own b)\/(k≠j/\dP rl k b):=by
 funext k b;apply propext;unfold dP;by_cases hk:k=j
 ·subst hk;simp[List.getElem?_set_self e]
 ·rw[List.getElem?_set_ne (Ne.symm hk)];simp[hk]
def Nt(Sw:Nat->Prop)(op:MemOp):Prop:=(∀a,op.act ≠ .mark (.release a))/\∀x,op.act.touch? = some x->tN Sw x.loc\/x.kind = .plain
def EY(Sw:Nat->Prop)(t:Trace):Prop:=(∀a,NoRelease a t)/\∀(i:Nat) x,touchAt t i=some x->tN Sw x.loc\/x.kind = .plain
theorem Nt.none{Sw:Nat->Prop}{op:MemOp}(h:∀a,op.act ≠ .mark (.release a))(H:op.act.touch? = none):Nt Sw op:=⟨h,λx e=>by rw[H] at e;cases e⟩
theorem EY.more{Sw aI:Nat->Prop}{t:Trace}(h:EY Sw t)(H:∀b,Sw b->aI b):EY aI t:=⟨h.1,λi x I=>(h.2 i x I).imp (λ⟨b,h1,e⟩=>⟨b,h1,H b e⟩) id⟩
structure WI(Sw:Nat->Prop)(live:Nat->Prop)(D:Nat->Nat)(Ro:Nat->Prop)(rl:List bW)(W:World)(t:Trace):Prop where
 ap:Ap Sw W.heap.size (dP rl) Ro
 ti:TI Sw W.heap.size live (dP rl) Ro t rl.length
 deaf:∀j,live j->Deaf t j=D j
 pY:EY Sw t
theorem qb{Sw:Nat->Prop}{t u:Trace}(h:EY Sw t)(J:∀op∈u,Nt Sw op):EY Sw (t++u):=by
 refine⟨λa i e=>?_,λi x M=>?_⟩;rotate_left
 ·obtain⟨op,H,I⟩:=touch_of M;rcases getElem?_append_cases H with⟨_,ho'⟩|⟨_,ό⟩
  ·exact h.2 i x (by rw[touchAt_of ho'];exact I)
  ·exact (J op ό).2 x I
 unfold Trace.act? at e;cases H:(t++u)[i]? with
 | none=>rw[H] at e;cases e
 | some op=>
  rw[H] at e;simp only[Option.map_some,Option.some.injEq] at e;rcases getElem?_append_cases H with⟨_,ho'⟩|⟨_,ό⟩
  ·exact h.1 a i (by rw[act?_of ho',e])
  ·exact (J op ό).1 a e
theorem QU{Ro O:Nat->Prop}{e:Event}(h:ng Ro O e){x:Touch}(H:(MemAct.ofEvent e).touch? = some x):∃b,blk x.loc=some b/\(O b\/(Ro b/\x.write=false)):=by
 cases h with
 | read h=>cases H;exact⟨_,rfl,h.elim (λh=>.inr ⟨h,rfl⟩) .inl⟩
 | write h=>cases H;exact⟨_,rfl,.inl h⟩
 | sO h=>cases H;exact⟨_,rfl,h.elim (λh=>.inr ⟨h,rfl⟩) .inl⟩
 | o7 h=>cases H;exact⟨_,rfl,.inl h⟩
 | room=>cases H
 | ext f=>cases H
theorem QV{Ro O:Nat->Prop}{e:Event}(h:ng Ro O e):MemAct.ofEvent e ≠ .mark .disable/\MemAct.ofEvent e ≠ .mark .enable:=by
 cases h<;>exact⟨(λh=>by cases h),(λh=>by cases h)⟩
theorem TU{Ro O:Nat->Prop}{e:Event}(h:ng Ro O e)(a:Addr):MemAct.ofEvent e ≠ .mark (.release a):=by
 cases h<;>exact λh=>by cases h
theorem QW{Ro O:Nat->Prop}{e:Event}(h:ng Ro O e){x:Touch}(H:(MemAct.ofEvent e).touch? = some x):x.kind = .plain:=by
 cases h<;>(cases H;try rfl)
theorem WI.step{Sw live Ro:Nat->Prop}{D:Nat->Nat}{rl:List bW}{W w':World}{t:Trace}{j:Nat}{m U:Bool}{S S':aR}{g g':Goroutine}{w:World}{O:Nat->Prop}{es:Array Event}{fn:FuncId}{pos:String}
  (A:WI Sw live D Ro rl W t) (J:rl[j]? = some (.run m S g w O)) (hl:live j) (I:nT Ro O W w' es):WI Sw live D Ro (rl.set j (.run U S' g' w' (grow O W w'))) w' (t++MemOp.ofEvents j fn pos es):=by
 have Z:=(List.getElem?_eq_some_iff.1 J).1;have e:dP (rl.set j (.run U S' g' w' (grow O W w')))=Dn (dP rl) j W.heap.size w'.heap.size:=by
  rw[pX Z];funext k b;apply propext;unfold Dn grow;constructor
  ·rintro (⟨rfl,h⟩|⟨_,h⟩)
   ·exact h.elim (λh=>.inl ⟨_,J,h⟩) λh=>.inr ⟨rfl,h⟩
   ·exact .inl h
  ·rintro (h|⟨rfl,h⟩)
   ·by_cases hk:k=j
    ·subst hk;obtain⟨r,hr,h⟩:=h;rw[J] at hr;cases hr;exact .inl ⟨rfl,.inl h⟩
    ·exact .inr ⟨hk,h⟩
   ·exact .inl ⟨rfl,.inr h⟩
 have ops:∀op∈MemOp.ofEvents j fn pos es,∃e∈es,op=⟨j,fn,pos,MemAct.ofEvent e⟩:=by
  intro op H;unfold MemOp.ofEvents at H;split at H
  ·simp at H
  ·obtain⟨e,he,rfl⟩:=Array.mem_map.1 H;exact⟨e,he,rfl⟩
 refine⟨?_,?_,λk hk=>?_,qb A.pY λop H=>(by obtain⟨e,he,rfl⟩:=ops op H;exact⟨TU (I.evs e he),λx M=>.inr (QW (I.evs e he) M)⟩)⟩
 ·rw[e];exact A.ap.grow j I.size
 ·rw[e,length_set];refine TI.step A.ap A.ti hl Z I.size λop H=>?_
  obtain⟨e,he,rfl⟩:=ops op H;refine⟨rfl,λx M=>.inr ?_⟩;obtain⟨b,h1,h2⟩:=QU (I.evs e he) M;exact⟨b,h1,h2.imp (λh=>h.imp (λh=>⟨_,J,h⟩) id) id⟩
 ·rw[ConcN.Deaf_still t k _ λop H=>?_]
  ·exact A.deaf k hk
  ·obtain⟨e,he,rfl⟩:=ops op H;exact QV (I.evs e he)
theorem keep_other{Sw Ro:Nat->Prop}{rl:List bW}{W w' wk:World}{j k:Nat}{m:Bool}{S:aR}{g:Goroutine}{w:World}{O:Nat->Prop}{r:bW}{es:Array Event}(A:Ap Sw W.heap.size (dP rl) Ro)
  (J:rl[j]? = some (.run m S g w O)) (hk:rl[k]? = some r) (M:k≠j) (H:nT Ro O W w' es) (h:Keep Ro r.own wk W):Keep Ro r.own wk w':=by
 refine h.trans ⟨H.size,λb e=>?_,H.os,H.output⟩;rcases e with e|e
 ·exact H.old b (A.vV _ e) λI=>A.ro j b ⟨_,J,I⟩ e
 ·exact H.old b (A.lt k b ⟨_,hk,e⟩) λI=>M (A.own _ _ _ ⟨_,hk,e⟩ ⟨_,J,I⟩)
theorem ji{Ro O:Nat->Prop}{w W:World}{r s d:Nat}(h:Keep Ro O w W)(hr:¬ Ro r)(H:¬ O r):Keep Ro O w (sent (W.at d) r s):=by
 refine h.trans ⟨?_,λb e=>?_,rfl,rfl⟩
 ·show W.heap.size<=(W.heap.modify r _).size;simp
 ·show (W.heap.modify r _)[b]? = W.heap[b]?;rw[Array.getElem?_modify,if_neg];rintro rfl;exact e.elim hr H
theorem Jr{W:World}{r s d:Nat}:(sent (W.at d) r s).heap.size=W.heap.size:=by
 show (W.heap.modify r _).size=_;simp
theorem zS{W:World}{r s r' s' d:Nat}(h:kW W r' s'):∃s'',kW (sent (W.at d) r s) r' s'':=by
 obtain⟨H,h⟩:=h;by_cases e:r=r'
 ·subst e;refine⟨s+1,H,?_⟩;show (W.heap.modify r _)[r]? = _;rw[Array.getElem?_modify,if_pos rfl,h];rfl
 ·refine⟨s',H,?_⟩;show (W.heap.modify r _)[r']? = _;rw[Array.getElem?_modify,if_neg e,h]
end Px
namespace Px
open Go Go.Conc
def HO(t:Trace)(j:Nat):Prop:=∀i,t.g? i=some j->t.counts i->Knows t 0 i
theorem HO.app{t u:Trace}{j:Nat}(h:HO t j)(M:∀op∈u,op.g=j->op.act.touch? = none):HO (t++u) j:=by
 intro i H ⟨x,hx,hm⟩;obtain⟨op,I,e⟩:=touch_of hx;rcases getElem?_append_cases I with⟨hi,ho'⟩|⟨_,ŏ⟩
 ·refine (h i (by rw[Trace.g?,ho'] ;rw[Trace.g?,I] at H;exact H) ⟨x,?_,hm.1,hm.2.imp id λhh=>?_⟩).app u
  ·rw[act?_of ho'];exact e
  ·obtain⟨g,h1,J⟩:=hh;exact⟨g,by rw[Trace.g?,ho'];rw[Trace.g?,I] at h1;exact h1,by rw[<-J];exact (deaf_old (le_of_lt hi)).symm⟩
 ·rw[Trace.g?,I] at H;rw[M op ŏ (by simpa using H)] at e;cases e
structure Pl where
 P:Program
 Sw:Nat->Prop
 Ro:Nat->Prop
 h0:Nat->Option Obj
 J0:Nat
 dm:Nat
 cn:Nat
 cr:Nat
 n:Nat
 AtR:aR
 kX:Nat->aR
 fq:Nat->List Nat->aR
 BN:Nat->Value->World->(Nat->Prop)->Prop
 eR:Value
 eS:Value
 e0:Value
 e1:Value
def Pl.sk(p:Pl):Option Nat->aR
 | none=>p.AtR
 | some i=>p.kX i
def Pl.live(p:Pl)(N j:Nat):Prop:=j=0\/(p.J0<=j/\j<N)
def Pl.D(p:Pl)(j:Nat):Nat:=if j=0 then p.dm else 0
def Pl.cR(p:Pl):CommCase:=⟨.chan (some p.cn),none,p.eR⟩
def Pl.cS(p:Pl)(v:Value):CommCase:=⟨.chan (some p.cr),some v,p.eS⟩
def Pl.cM(p:Pl)(next:Nat):Array CommCase:=#[⟨.chan (if next<p.n then some p.cn else none),some (goInt next),p.e0⟩,⟨.chan (some p.cr),none,p.e1⟩]
structure Pl.Ok(p:Pl):Prop where
 ne:p.cn≠p.cr
 j0:1<=p.J0
 dm:0<p.n->p.dm=0
 hR:∀g w O,p.AtR g w O->∃g1,stepG p.P false g w = .comm g1 #[p.cR] true (.recv true) w #[] /\
  ∀i,i<p.n->∀w',Keep p.Ro O w w'->Runs p.P false p.Ro (p.kX i) (g1.finishComm p.P #[p.cR] (.recv true) (0:Nat) (goInt i) true) w' O
 hS:∀i g w O,p.kX i g w O->∃g1 v,stepG p.P false g w = .comm g1 #[p.cS v] true .send w #[]/\(∀w',Keep p.Ro O w w'->p.BN i v w' O) /\
  ∀w',Keep p.Ro (λ_=>False) w w'->Runs p.P false p.Ro p.AtR (g1.finishComm p.P #[p.cS v] .send (0:Nat) undef false) w' λ_=>False
 hM:∀next got g w O,p.fq next got g w O->got.length<p.n->∃g1,stepG p.P true g w = .comm g1 (p.cM next) true .select w #[] /\
  (next<p.n->∀w',Keep p.Ro O w w'->Runs p.P true p.Ro (p.fq (next+1) got) (g1.finishComm p.P (p.cM next) .select (0:Nat) undef false) w' O) /\
  ∀i v Oi w',i<next->i∉got->Keep p.Ro O w w'->p.BN i v w' Oi->(∀b,Oi b->¬ O b)->Runs p.P true p.Ro (p.fq next (i::got)) (g1.finishComm p.P (p.cM next) .select (1:Nat) v true) w' λb=>O b\/Oi b
def Pk(P:Program)(m:Bool)(g:Goroutine)(w:World)(x:Goroutine):Prop:=∃g1 cs sh,stepG P m g w = .comm g1 cs true sh w #[]/\x = { g1 with status:=.blocked,offers:=some (cs,sh) }
def r9(p:Pl)(next:Nat)(got:List Nat):bW->Goroutine->World->Prop
 | .run m S g w O,x,W=>m=true/\S=p.fq next got/\x=g/\x.status = .running/\Runs p.P true p.Ro S g w O/\Keep p.Ro O w W
 | .idle g w O,x,W=>got.length<p.n/\Pk p.P true g w x/\Keep p.Ro O w W/\∀w₁,Keep p.Ro O w w₁->p.fq next got g w₁ O
 | .quit _,_,_=>False
def jA(p:Pl)(j:Nat)(tk:Option Nat):bW->Goroutine->World->Trace->Prop
 | .run m S g w O,x,W,_=>p.J0<=j/\m=false/\S=p.sk tk/\x=g/\x.status = .running/\Runs p.P false p.Ro S g w O/\Keep p.Ro O w W
 | .idle g w O,x,W,_=>p.J0<=j/\Pk p.P false g w x/\Keep p.Ro O w W/\∀w₁,Keep p.Ro O w w₁->p.sk tk g w₁ O
 | .quit q,x,_,t=>j<p.J0/\QuitsD p.P q (Deaf t j) x/\HO t j
structure G2(p:Pl)(gs:Array Goroutine)(W:World)(t:Trace)(rl:List bW)(tk:Nat->Option Nat)(next:Nat)(got:List Nat):Prop where
 len:rl.length=gs.size
 wi:WI p.Sw (p.live gs.size) p.D p.Ro rl W t
 sw:p.J0<gs.size->p.Sw p.cn/\p.Sw p.cr
 qN:p.J0<gs.size->∃s,kW W p.cn s
 chr:p.J0<gs.size->∃s,kW W p.cr s
 fx:∀b,p.Sw b->b≠p.cn->b≠p.cr->W.heap[b]? = p.h0 b
 main:∃r x,rl[0]? = some r/\gs[0]? = some x/\r9 p next got r x W
 work:∀j r x,j≠0->rl[j]? = some r->gs[j]? = some x->jA p j (tk j) r x W t
 qm:∀j i,tk j=some i->p.J0<=j/\j<gs.size/\i<next/\i∉got
 tk1:∀j j' i,tk j=some i->tk j'=some i->j=j'
 BO:∀i,i<next->i∈got\/∃j,tk j=some i
 gb:∀i,i∈got->i<next
 gn:got.Nodup
 nn:next<=p.n
 one:0<p.n->p.J0<gs.size
 wait:∀g w O,rl[0]? = some (.idle g w O)->∀j g w O,j≠0->rl[j]? = some (.idle g w O)->tk j=none/\¬ next<p.n
section
variable {p:Pl} {gs:Array Goroutine} {W:World} {t:Trace} {rl:List bW} {tk:Nat->Option Nat} {next:Nat} {got:List Nat}
theorem Pk.cases{P:Program}{m:Bool}{g e x:Goroutine}{w:World}{cs:Array CommCase}{sh:CommShape}(h:Pk P m g w x)(M:stepG P m g w = .comm e cs true sh w #[]):x = { e with status:=.blocked,offers:=some (cs,sh) }:=by
 obtain⟨Z,I,U,H,J⟩:=h;rw[M] at H;cases H;exact J
theorem jA.free(o:p.Ok){j:Nat}{g x:Goroutine}{w:World}{O:Nat->Prop}(h:jA p j none (.idle g w O) x W t):∃e:Goroutine,x = { e with status:=.blocked,offers:=some (#[p.cR],.recv true) } /\
  ∀i,i<p.n->∀w',Keep p.Ro O w w'->Runs p.P false p.Ro (p.kX i) (e.finishComm p.P #[p.cR] (.recv true) (0:Nat) (goInt i) true) w' O:=by
 obtain⟨_,h1,M,H⟩:=h;obtain⟨e,I,J⟩:=o.hR _ _ _ (H w (.refl ..));exact⟨e,h1.cases I,J⟩
theorem jA.busy(o:p.Ok){j i:Nat}{g x:Goroutine}{w:World}{O:Nat->Prop}(h:jA p j (some i) (.idle g w O) x W t):∃(e:Goroutine) (v:Value),x = { e with status:=.blocked,offers:=some (#[p.cS v],.send) }/\(∀w',Keep p.Ro O w w'->p.BN i v w' O) /\
  ∀w',Keep p.Ro (λ_=>False) w w'->Runs p.P false p.Ro p.AtR (e.finishComm p.P #[p.cS v] .send (0:Nat) undef false) w' λ_=>False:=by
 obtain⟨_,h1,M,H⟩:=h;obtain⟨e,v,I,J⟩:=o.hS _ _ _ _ (H w (.refl ..));exact⟨e,v,h1.cases I,J⟩
theorem r9.parked(o:p.Ok){g x:Goroutine}{w:World}{O:Nat->Prop}(h:r9 p next got (.idle g w O) x W):∃e:Goroutine,x = { e with status:=.blocked,offers:=some (p.cM next,.select) } /\
  (next<p.n->∀w',Keep p.Ro O w w'->Runs p.P true p.Ro (p.fq (next+1) got) (e.finishComm p.P (p.cM next) .select (0:Nat) undef false) w' O) /\
  ∀i v H w',i<next->i∉got->Keep p.Ro O w w'->p.BN i v w' H->(∀b,H b->¬ O b)->Runs p.P true p.Ro (p.fq next (i::got)) (e.finishComm p.P (p.cM next) .select (1:Nat) v true) w' λb=>O b\/H b:=by
 obtain⟨h0,h1,U,I⟩:=h;obtain⟨e,J,M⟩:=o.hM _ _ _ _ _ (I w (.refl ..)) h0;exact⟨e,h1.cases J,M⟩
theorem TV{c:CommCase}(h:c∈p.cM next):c.chan = .chan none\/c.chan = .chan (some p.cn)\/c.chan = .chan (some p.cr):=by
 simp only[Pl.cM,mem_toArray,mem_cons,not_mem_nil,or_false] at h;rcases h with rfl|rfl
 ·by_cases hn:next<p.n
  ·exact .inr (.inl (by simp[hn]))
  ·exact .inl (by simp[hn])
 ·exact .inr (.inr rfl)
theorem j3{P:Program}{q d:Nat}{x:Goroutine}(h:QuitsD P q d x):x.status = .running\/x.status = .finished:=by
 cases q with
 | zero=>exact .inr h.1
 | succ q=>exact h.elim (λh=>.inr h.1) λh=>.inl h.1
theorem G2.again(o:p.Ok)(h:G2 p gs W t rl tk next got){w':World}(hn:p.J0<gs.size->∃s,kW w' p.cn s)(hr:p.J0<gs.size->∃s,kW w' p.cr s){x:Goroutine}{j:Nat}(M:gs[j]? = some x):x.again w'=x:=by
 by_cases hj:j=0
 ·subst hj;obtain⟨r,x',h1,Z,I⟩:=h.main;rw[M] at Z;cases Z;match r,I with
  | .run ..,⟨_,_,_,e,_⟩=>exact jZ (.inl e)
  | .idle ..,e=>
   have H:=h.one (lt_of_le_of_lt (zero_le _) e.1);obtain⟨s,hn⟩:=hn H;obtain⟨s',hr⟩:=hr H;obtain⟨U,rfl,_⟩:=r9.parked o e;refine zR rfl rfl λc hc=>?_
   rcases TV hc with h|h|h
   ·exact .inl h
   ·exact .inr ⟨_,_,h,hn⟩
   ·exact .inr ⟨_,_,h,hr⟩
 ·obtain⟨ύ,_⟩:=Array.getElem?_eq_some_iff.1 M;obtain⟨r,J⟩:∃r,rl[j]? = some r:=⟨rl[j]'(by rw[h.len];exact ύ),eO⟩;have I:=h.work j r x hj J M;match r,I with
  | .run ..,⟨_,_,_,_,e,_⟩=>exact jZ (.inl e)
  | .idle ..,e=>
   have H:=lt_of_le_of_lt e.1 ύ;obtain⟨s,hn⟩:=hn H;obtain⟨s',hr⟩:=hr H;revert e;cases Æ:tk j with
   | none=>
    intro e;obtain⟨U,rfl,_⟩:=jA.free o e;refine zR rfl rfl λc hc=>.inr ⟨_,_,?_,hn⟩
    simp only[mem_toArray,mem_cons,not_mem_nil,or_false] at hc;subst hc;rfl
   | some i=>
    intro e;obtain⟨U,v,rfl,_⟩:=jA.busy o e;refine zR rfl rfl λc hc=>.inr ⟨_,_,?_,hr⟩
    simp only[mem_toArray,mem_cons,not_mem_nil,or_false] at hc;subst hc;rfl
  | .quit _,⟨_,e,_⟩=>exact jZ (j3 e)
theorem G2.woken(o:p.Ok)(h:G2 p gs W t rl tk next got){w':World}(hn:p.J0<gs.size->∃s,kW w' p.cn s)(hr:p.J0<gs.size->∃s,kW w' p.cr s)(g g':Goroutine):gs.map (woken p.P g g' w')=gs:=by
 apply Array.ext_getElem?;intro j;rw[Array.getElem?_map];cases e:gs[j]? with
 | none=>rfl
 | some x=>
  simp only[Option.map_some,Conc.woken];rw[h.again o hn hr e,ite_self]
end
end Px
namespace Px
open Go Go.Conc
section
variable {p:Pl} {gs gs':Array Goroutine} {W W':World} {t t':Trace} {rl rl':List bW} {tk tk':Nat->Option Nat} {next next':Nat} {got got':List Nat}
theorem r9.mono{r:bW}{x:Goroutine}(h:r9 p next got r x W)(hk:Keep p.Ro r.own W W'):r9 p next got r x W':=by
 match r,h with
 | .run ..,⟨a,b,c,d,e,f⟩=>exact⟨a,b,c,d,e,f.trans hk⟩
 | .idle ..,⟨a,b,c,d⟩=>exact⟨a,b,c.trans hk,d⟩
theorem jA.mono{j:Nat}{k:Option Nat}{r:bW}{x:Goroutine}(h:jA p j k r x W t)(hk:Keep p.Ro r.own W W')(H:j<p.J0->Deaf t' j=Deaf t j/\(HO t j->HO t' j)):jA p j k r x W' t':=by
 match r,h with
 | .run ..,⟨a,b,c,d,e,f,g⟩=>exact⟨a,b,c,d,e,f,g.trans hk⟩
 | .idle ..,⟨a,b,c,d⟩=>exact⟨a,b,c.trans hk,d⟩
 | .quit _,⟨a,b,c⟩=>exact⟨a,by rw[(H a).1];exact b,(H a).2 c⟩
theorem G2.upd(D:Nat->Prop)(h:G2 p gs W t rl tk next got)(len:rl'.length=gs'.size)(size:gs'.size=gs.size)(wi:WI p.Sw (p.live gs.size) p.D p.Ro rl' W' t')(qN:p.J0<gs.size->∃s,kW W' p.cn s)(chr:p.J0<gs.size->∃s,kW W' p.cr s)
  (fx:∀b,p.Sw b->b≠p.cn->b≠p.cr->W'.heap[b]? = W.heap[b]?) (same:∀k,¬ D k->rl'[k]? = rl[k]? /\ gs'[k]? = gs[k]? /\ tk' k=tk k) (keep:∀k r,¬ D k->rl[k]? = some r->Keep p.Ro r.own W W')
  (I:∀k,¬ D k->k≠0->k<p.J0->Deaf t' k=Deaf t k/\(HO t k->HO t' k)) (main:D 0->∃r x,rl'[0]? = some r/\gs'[0]? = some x/\r9 p next' got' r x W') (H:¬ D 0->next'=next/\got'=got)
  (work:∀k r x,D k->k≠0->rl'[k]? = some r->gs'[k]? = some x->jA p k (tk' k) r x W' t')
  (qm:∀j i,tk' j=some i->p.J0<=j/\j<gs.size/\i<next'/\i∉got') (tk1:∀j j' i,tk' j=some i->tk' j'=some i->j=j') (BO:∀i,i<next'->i∈got'\/∃j,tk' j=some i)
  (gb:∀i,i∈got'->i<next') (gn:got'.Nodup) (nn:next'<=p.n) (wait:∀g w O,rl'[0]? = some (.idle g w O)->∀j g w O,j≠0->rl'[j]? = some (.idle g w O)->tk' j=none/\¬ next'<p.n):G2 p gs' W' t' rl' tk' next' got' where
 len:=len
 wi:=by rw[size];exact wi
 sw:=by rw[size];exact h.sw
 qN:=by rw[size];exact qN
 chr:=by rw[size];exact chr
 fx:=λb h1 J M=>(fx b h1 J M).trans (h.fx b h1 J M)
 main:=by
  by_cases e:D 0
  ·exact main e
  ·obtain⟨r,x,h1,J,M⟩:=h.main;obtain⟨rfl,rfl⟩:=H e;obtain⟨U,Z,_⟩:=same 0 e;exact⟨r,x,U.trans h1,Z.trans J,M.mono (keep 0 r e h1)⟩
 work:=λj r x hj hr hx=>by
  by_cases e:D j
  ·exact work j r x e hj hr hx
  ·obtain⟨U,Z,e3⟩:=same j e;rw[U] at hr;rw[Z] at hx;rw[e3];exact (h.work j r x hj hr hx).mono (keep j r e hr) (I j e hj)
 qm:=λj i hi=>by rw[size];exact qm j i hi
 tk1:=tk1
 BO:=BO
 gb:=gb
 gn:=gn
 nn:=nn
 one:=by rw[size];exact h.one
 wait:=wait
theorem iN(Ro O:Nat->Prop)(W:World)(d:Nat):Keep Ro O W (W.at d):=⟨le_refl _,λ_ _=>rfl,rfl,rfl⟩
theorem G2.at(h:G2 p gs W t rl tk next got)(d:Nat):G2 p gs (W.at d) t rl tk next got:=
 h.upd (λ_=>False) h.len rfl ⟨h.wi.ap,h.wi.ti,h.wi.deaf,h.wi.pY⟩ h.qN h.chr (λ_ _ _ _=>rfl) (λ_ _=>⟨rfl,rfl,rfl⟩) (λ_ _ _ _=>iN _ _ _ _) (λ_ _ _ _=>⟨rfl,id⟩) (λh=>h.elim) (λ_=>⟨rfl,rfl⟩) (λ_ _ _ h=>h.elim) h.qm h.tk1 h.BO h.gb h.gn h.nn h.wait
theorem sj{j k:Nat}{fn:FuncId}{pos:String}{es:Array Event}(I:k≠j)(t:Trace):Deaf (t++MemOp.ofEvents j fn pos es) k=Deaf t k/\(HO t k->HO (t++MemOp.ofEvents j fn pos es) k):=by
 have H:∀op∈MemOp.ofEvents j fn pos es,op.g=j:=ConcR.g_of_ofEvents;exact⟨Deaf_other t (Ne.symm I) _ H,λh=>h.app λop J e=>absurd (e.symm.trans (H op J)) I⟩
theorem G2.own(h:G2 p gs W t rl tk next got){j:Nat}{m:Bool}{S:aR}{g g':Goroutine}{w w':World}{O:Nat->Prop}{es:Array Event}(fn:FuncId)(pos:String)(J:rl[j]? = some (.run m S g w O))(hl:p.live gs.size j)(hf:nT p.Ro O W w' es)
  (hs:g'.status = .running) (hr:Runs p.P m p.Ro S g' w' (grow O W w')):G2 p (gs.setIfInBounds j g') w' (t++MemOp.ofEvents j fn pos es) (rl.set j (.run m S g' w' (grow O W w'))) tk next got:=by
 have ύ:=(List.getElem?_eq_some_iff.1 J).1;have iO:j<gs.size:=h.len ▸ ύ;have Z:∀b,p.Sw b->w'.heap[b]? = W.heap[b]?:=λb hb=>hf.old b (h.wi.ap.pV b hb) λho=>h.wi.ap.sw j b ⟨_,J,ho⟩ hb
 have M:∀c s,p.Sw c->kW W c s->kW w' c s:=λc s hc ⟨tm,e⟩=>⟨tm,(Z c hc).trans e⟩
 have sm:∀k,¬ k=j->(rl.set j (.run m S g' w' (grow O W w')))[k]? = rl[k]? /\ (gs.setIfInBounds j g')[k]? = gs[k]? /\ tk k=tk k:=λk hk=>⟨List.getElem?_set_ne (Ne.symm hk),cZ (Ne.symm hk) _,rfl⟩
 have ŵ:(rl.set j (.run m S g' w' (grow O W w')))[j]? = some (.run m S g' w' (grow O W w')):=List.getElem?_set_self ύ;refine h.upd (· = j) (by simp[h.len]) eO (h.wi.step J hl hf) ?_ ?_ (λb hb _ _=>Z b hb) sm (λk r hk hr=>keep_other h.wi.ap J hr hk hf (.refl ..)) (λk hk _ _=>sj hk t) ?_ (λ_=>⟨rfl,rfl⟩) ?_ h.qm h.tk1 h.BO h.gb h.gn h.nn ?_
 ·intro U;obtain⟨s,e⟩:=h.qN U;exact⟨s,M _ _ (h.sw U).1 e⟩
 ·intro U;obtain⟨s,e⟩:=h.chr U;exact⟨s,M _ _ (h.sw U).2 e⟩
 ·rintro rfl;obtain⟨r,x,h1,h2,h3⟩:=h.main;rw[J] at h1;cases h1;obtain⟨rfl,rfl,rfl,h4,h5,h6⟩:=h3;exact⟨_,_,ŵ,get_set_same iO _,rfl,rfl,rfl,hs,hr,.refl ..⟩
 ·rintro k r x rfl hk H I;rw[ŵ] at H;cases H;rw[get_set_same iO] at I;cases I;obtain⟨x,hx⟩:∃x,gs[k]? = some x:=⟨gs[k],by simp[iO]⟩;obtain⟨a,rfl,rfl,rfl,h4,h5,h6⟩:=h.work k _ x hk J hx;exact⟨a,rfl,rfl,rfl,hs,hr,.refl ..⟩
 ·intro g1 w1 O1 H k g2 w2 O2 hk I;by_cases Ϭ:0=j
  ·subst Ϭ;rw[ŵ] at H;cases H
  ·by_cases ı:k=j
   ·subst ı;rw[ŵ] at I;cases I
   ·rw[(sm 0 Ϭ).1] at H;rw[(sm k ı).1] at I;exact h.wait _ _ _ H _ _ _ _ hk I
end
end Px
namespace Px
open Go Go.Conc
section
variable {p:Pl} {gs gs':Array Goroutine} {W W':World} {t:Trace} {rl:List bW} {tk:Nat->Option Nat} {next:Nat} {got:List Nat}
theorem qo{rl:List bW}{j:Nat}{r r':bW}(H:rl[j]? = some r)(h:r'.own=r.own):dP (rl.set j r')=dP rl:=by
 rw[pX (List.getElem?_eq_some_iff.1 H).1];funext k b;apply propext;constructor
 ·rintro (⟨rfl,e⟩|⟨_,e⟩)
  ·exact⟨_,H,h ▸ e⟩
  ·exact e
 ·intro e;by_cases hk:k=j
  ·subst hk;obtain⟨J,h1,I⟩:=e;rw[H] at h1;cases h1;exact .inl ⟨rfl,by rw[h];exact I⟩
  ·exact .inr ⟨hk,e⟩
theorem WI.pass{Sw live Ro:Nat->Prop}{D:Nat->Nat}{rl rl':List bW}{u:Trace}(A:WI Sw live D Ro rl W t)(len:rl'.length=rl.length)(size:W'.heap.size=W.heap.size)(I:∀op∈u,op.act.touch? = none/\op.g<rl.length)(M:∀k,live k->Deaf (t++u) k=Deaf t k)(Z:∀op∈u,∀a,op.act ≠ .mark (.release a))
  {s r:Nat} (U:live s) (H:∀g b,dP rl' g b->dP rl g b\/(g=r/\dP rl s b)) (one:∀g g' b,dP rl' g b->dP rl' g' b->g=g') (hk:∀i,Knows t s i->Knows (t++u) r i):WI Sw live D Ro rl' W' (t++u):=by
 have e:∀g b,dP rl' g b->∃g',dP rl g' b:=λg b h=>(H g b h).elim (λh=>⟨_,h⟩) λh=>⟨_,h.2⟩
 refine⟨⟨one,λg b h=>?_,λg b h=>?_,A.ap.qM,λg b h=>?_,λb h=>?_,λb h=>?_⟩,?_,λk hk=>(M k hk).trans (A.deaf k hk),qb A.pY λop J=>.none (Z op J) (I op J).1⟩
 ·obtain⟨g',h'⟩:=e g b h;exact A.ap.ro _ _ h'
 ·obtain⟨g',h'⟩:=e g b h;exact A.ap.sw _ _ h'
 ·obtain⟨g',h'⟩:=e g b h;rw[size];exact A.ap.lt _ _ h'
 ·rw[size];exact A.ap.vV _ h
 ·rw[size];exact A.ap.pV _ h
 ·rw[size,len];refine A.ti.still (le_refl _) I (λg b hl h=>?_) λg hl=>⟨g,hl,λi h=>h.app u⟩
  rcases H g b h with h|⟨rfl,h⟩
  ·exact⟨g,hl,h,λi h=>h.app u⟩
  ·exact⟨s,U,h,hk⟩
theorem G2.leave(h:G2 p gs W t rl tk next got){j q:Nat}{x:Goroutine}(M:rl[j]? = some (.quit q))(hx:gs[j]? = some x)(hr:x.status = .running):∃g' es q',q=q'+1/\(∀w,stepG p.P false x w = .go g' w es) /\
  ∀fn pos,G2 p (gs.setIfInBounds j g') W (t++MemOp.ofEvents j fn pos es) (rl.set j (.quit q')) tk next got:=by
 have ύ:=(List.getElem?_eq_some_iff.1 M).1;have iO:j<gs.size:=h.len ▸ ύ;have Z:j≠0:=by
  rintro rfl;obtain⟨r,x,h1,_,h3⟩:=h.main;rw[M] at h1;cases h1;exact h3
 obtain⟨hJ,U,ho⟩:=h.work j _ x Z M hx;cases q with
 | zero=>rw[U.1] at hr;cases hr
 | succ q=>
  rcases U with⟨h1,_⟩|⟨_,g',es,hm,hs,U⟩
  ·rw[h1] at hr;cases hr
  ·refine⟨g',es,q,rfl,hs,λfn pos=>?_⟩;have ops:∀op∈MemOp.ofEvents j fn pos es,op.act.touch? = none/\op.g<rl.length:=by
    intro op H;refine⟨?_,by rw[ConcR.g_of_ofEvents op H];exact ύ⟩;unfold MemOp.ofEvents at H;split at H
    ·simp at H
    ·obtain⟨e,he,rfl⟩:=Array.mem_map.1 H;have:=hm e he;unfold Event.mute at this;split at this<;>first|rfl|cases this
   have onr:∀op∈MemOp.ofEvents j fn pos es,∀a,op.act ≠ .mark (.release a):=by
    intro op H a;unfold MemOp.ofEvents at H;split at H
    ·simp at H
    ·obtain⟨e,he,rfl⟩:=Array.mem_map.1 H;have:=hm e he;unfold Event.mute at this;split at this<;>first|exact λh=>by cases h|cases this
   have sm:∀k,¬ k=j->(rl.set j (.quit q))[k]? = rl[k]? /\ (gs.setIfInBounds j g')[k]? = gs[k]? /\ tk k=tk k:=λk hk=>⟨List.getElem?_set_ne (Ne.symm hk),cZ (Ne.symm hk) _,rfl⟩
   have nl:∀k,p.live gs.size k->k≠j:=by
    rintro k (rfl|hk) rfl
    ·exact Z rfl
    ·omega
   have ŵ:(rl.set j (.quit q))[j]? = some (.quit q):=List.getElem?_set_self ύ;refine h.upd (· = j) (by simp[h.len]) eO ?_ h.qN h.chr (λb hb _ _=>rfl) sm (λk r hk hr=>.refl ..) (λk hk _ _=>sj hk t) (λe=>absurd e.symm Z) (λ_=>⟨rfl,rfl⟩) ?_ h.qm h.tk1 h.BO h.gb h.gn h.nn ?_
   ·have e:dP (rl.set j (.quit q))=dP rl:=qo M rfl;refine h.wi.pass eO rfl ops (λk hk=>(sj (nl k hk) t).1) onr (s:=0) (r:=0) (.inl rfl) (λg b h=>.inl (by rw[<-e];exact h)) (by rw[e];exact h.wi.ap.own) λi h=>h.app _
   ·rintro k r x' rfl hk J I;rw[ŵ] at J;cases J;rw[get_set_same iO] at I;cases I;refine⟨hJ,?_,ho.app λop H _=>(ops op H).1⟩;rw[Deaf_own];exact U
   ·intro g1 w1 O1 J k g2 w2 O2 hk I;rw[(sm 0 (Ne.symm Z)).1] at J;by_cases ı:k=j
    ·subst ı;rw[ŵ] at I;cases I
    ·rw[(sm k ı).1] at I;exact h.wait _ _ _ J _ _ _ _ hk I
theorem BP(t:Trace){s r c m:Nat}{x y:FuncId}{H I:String}(k:Nat):Deaf (t++Ϸ s r c m x y H I) k=Deaf t k:=by
 refine ConcN.Deaf_still t k _ λop e=>?_
 simp only[Ϸ,mem_toArray,mem_cons,not_mem_nil,or_false] at e;rcases e with rfl|rfl|rfl|rfl<;>exact⟨(λh=>by cases h),(λh=>by cases h)⟩
theorem O3{t:Trace}{s r c m:Nat}{x y:FuncId}{H I:String}{k:Nat}(h:HO t k):HO (t++Ϸ s r c m x y H I) k:=
 h.app λop e _=>by
  simp only[Ϸ,mem_toArray,mem_cons,not_mem_nil,or_false] at e;rcases e with rfl|rfl|rfl|rfl<;>rfl
theorem G2.pW(h:G2 p gs W t rl tk next got){j:Nat}{m:Bool}{S:aR}{g x':Goroutine}{w:World}{O:Nat->Prop}(U:rl[j]? = some (.run m S g w O))(Ϗ:∀H,Keep p.Ro O w H->S g H O)(Ő:Pk p.P m g W x')(hm:m=(j==0))
  (h0:j=0->got.length<p.n/\∀k g w O,k≠0->rl[k]? = some (.idle g w O)->tk k=none/\¬ next<p.n) (h1:j≠0->(∃g w O,rl[0]? = some (.idle g w O))->tk j=none/\¬ next<p.n) :
  G2 p (gs.setIfInBounds j x') W t (rl.set j (.idle g W O)) tk next got:=by
 have ύ:=(List.getElem?_eq_some_iff.1 U).1;have Z:j<gs.size:=h.len ▸ ύ;obtain⟨x,hx⟩:∃x,gs[j]? = some x:=⟨gs[j],by simp[Z]⟩;have M:∀k,¬ k=j->(rl.set j (.idle g W O))[k]? = rl[k]? /\ (gs.setIfInBounds j x')[k]? = gs[k]? /\ tk k=tk k:=λk hk=>⟨List.getElem?_set_ne (Ne.symm hk),cZ (Ne.symm hk) _,rfl⟩
 have ŵ:(rl.set j (.idle g W O))[j]? = some (.idle g W O):=List.getElem?_set_self ύ;have e:dP (rl.set j (.idle g W O))=dP rl:=qo U rfl;refine h.upd (· = j) (by simp[h.len]) eO ⟨by rw[e];exact h.wi.ap,by rw[e,length_set];exact h.wi.ti,h.wi.deaf,h.wi.pY⟩ h.qN h.chr (λb hb _ _=>rfl) M (λk r hk hr=>.refl ..) (λk hk _ _=>⟨rfl,id⟩) ?_ (λ_=>⟨rfl,rfl⟩) ?_ h.qm h.tk1 h.BO h.gb h.gn h.nn ?_
 ·rintro rfl;obtain⟨r,x,h2,h3,h4⟩:=h.main;rw[U] at h2;cases h2;obtain⟨rfl,rfl,rfl,h5,h6,h7⟩:=h4;exact⟨_,_,ŵ,get_set_same Z _,(h0 rfl).1,Ő,.refl ..,λH hk=>Ϗ H (h7.trans hk)⟩
 ·rintro k r x2 rfl hk I J;rw[ŵ] at I;cases I;rw[get_set_same Z] at J;cases J;obtain⟨a,rfl,rfl,rfl,h4,h5,h6⟩:=h.work k _ x hk U hx;exact⟨a,Ő,.refl ..,λH hk=>Ϗ H (h6.trans hk)⟩
 ·intro g1 w1 O1 I k g2 w2 O2 hk J;by_cases Ϭ:0=j
  ·subst Ϭ;rw[(M k hk).1] at J;exact (h0 rfl).2 _ _ _ _ hk J
  ·by_cases ı:k=j
   ·subst ı;rw[(M 0 Ϭ).1] at I;exact h1 hk ⟨_,_,_,I⟩
   ·rw[(M 0 Ϭ).1] at I;rw[(M k ı).1] at J;exact h.wait _ _ _ I _ _ _ _ hk J
end
end Px
namespace Px
open Go Go.Conc
section
variable {p:Pl} {gs gs':Array Goroutine} {W W':World} {t:Trace} {rl:List bW} {tk:Nat->Option Nat} {next:Nat} {got:List Nat}
theorem TW{s r c m:Nat}{x y:FuncId}{H I:String}:∀op∈Ϸ s r c m x y H I,∀a,op.act ≠ .mark (.release a):=by
 intro op e a;simp only[Ϸ,mem_toArray,mem_cons,not_mem_nil,or_false] at e;rcases e with rfl|rfl|rfl|rfl<;>exact λh=>by cases h
theorem G2.both(h:G2 p gs W t rl tk next got){j:Nat}{r0 rj a b:bW}(hj:j≠0)(Ð:rl[0]? = some r0)(o8:rl[j]? = some rj)(hl:p.J0<=j){s r c m:Nat}{fx fy:FuncId}{px py:String}(M:(s=0/\r=j)\/(s=j/\r=0))
  (hW:W'.heap.size=W.heap.size) {rs:bW} (hrs:rl[s]? = some rs) (hO0:∀H,a.own H->r0.own H\/(r=0/\rs.own H)) (hOj:∀H,b.own H->rj.own H\/(r=j/\rs.own H)) (hd:∀H,a.own H->¬ b.own H) (ŝ:p.dm=0) :
  WI p.Sw (p.live gs.size) p.D p.Ro ((rl.set 0 a).set j b) W' (t++Ϸ s r c m fx fy px py):=by
 have l0:=(List.getElem?_eq_some_iff.1 Ð).1;have lj:=(List.getElem?_eq_some_iff.1 o8).1;have e:∀k H,dP ((rl.set 0 a).set j b) k H↔(k=j/\b.own H)\/(k=0/\a.own H)\/(k≠j/\k≠0/\dP rl k H):=by
  intro k H;rw[pX (by simpa using lj),pX l0];constructor
  ·rintro (⟨h1,J⟩|⟨h1,⟨J,U⟩|⟨J,U⟩⟩)
   ·exact .inl ⟨h1,J⟩
   ·exact .inr (.inl ⟨J,U⟩)
   ·exact .inr (.inr ⟨h1,J,U⟩)
  ·rintro (⟨h1,J⟩|⟨J,U⟩|⟨h1,J,U⟩)
   ·exact .inl ⟨h1,J⟩
   ·exact .inr ⟨bB,.inl ⟨J,U⟩⟩
   ·exact .inr ⟨h1,.inr ⟨J,U⟩⟩
 have ls:p.live gs.size s:=by rcases M with⟨rfl,_⟩|⟨rfl,_⟩;exact .inl rfl;exact .inr ⟨hl,h.len ▸ lj⟩
 have lr:p.live gs.size r:=by rcases M with⟨_,rfl⟩|⟨_,rfl⟩;exact .inr ⟨hl,h.len ▸ lj⟩;exact .inl rfl
 have hD:∀k,p.D k=0:=λk=>by unfold Pl.D;split;exact ŝ;rfl
 have ř:=(h.wi.deaf s ls).trans (hD s);have ahb:=(h.wi.deaf r lr).trans (hD r);have O0:∀H,a.own H->dP rl 0 H\/(0=r/\dP rl s H):=λH I=>(hO0 H I).imp (λh=>⟨_,Ð,h⟩) λh=>⟨h.1.symm,_,hrs,h.2⟩
 have Oj:∀H,b.own H->dP rl j H\/(j=r/\dP rl s H):=λH I=>(hOj H I).imp (λh=>⟨_,o8,h⟩) λh=>⟨h.1.symm,_,hrs,h.2⟩
 have two:∀H,(a.own H\/b.own H)->dP rl 0 H\/dP rl j H:=by
  intro H I;have:dP rl s H->dP rl 0 H\/dP rl j H:=by rcases M with⟨rfl,_⟩|⟨rfl,_⟩;exact .inl;exact .inr
  rcases I with I|I
  ·exact (O0 H I).elim .inl λh=>this h.2
  ·exact (Oj H I).elim .inr λh=>this h.2
 have Z:∀k H,k≠j->k≠0->dP rl k H->¬ (a.own H\/b.own H):=λk H h1 J U I=>(two H I).elim (λh4=>J (h.wi.ap.own _ _ _ U h4)) λh4=>h1 (h.wi.ap.own _ _ _ U h4)
 refine h.wi.pass eO hW (QO ?_ ?_) (λk _=>BP t k) TW ls (r:=r) (λk H hk=>?_) (λk k' H h1 J=>?_) (QN ř ahb).1
 ·rcases M with⟨rfl,_⟩|⟨rfl,_⟩<;>assumption
 ·rcases M with⟨_,rfl⟩|⟨_,rfl⟩<;>assumption
 ·rcases (e k H).1 hk with⟨rfl,I⟩|⟨rfl,I⟩|⟨_,_,I⟩
  ·exact Oj H I
  ·exact O0 H I
  ·exact .inl I
 ·rcases (e k H).1 h1 with⟨rfl,I⟩|⟨rfl,I⟩|⟨n1,n2,I⟩<;>rcases (e k' H).1 J with⟨rfl,hb'⟩|⟨rfl,hb'⟩|⟨n1',n2',hb'⟩
  ·rfl
  ·exact absurd I (hd H hb')
  ·exact absurd (.inr I) (Z _ _ n1' n2' hb')
  ·exact absurd hb' (hd H I)
  ·rfl
  ·exact absurd (.inl I) (Z _ _ n1' n2' hb')
  ·exact absurd (.inr hb') (Z _ _ n1 n2 I)
  ·exact absurd (.inl hb') (Z _ _ n1 n2 I)
  ·exact h.wi.ap.own _ _ _ I hb'
theorem Gd{e:Type _}{l:List e}{j:Nat}{a b:e}(H:j≠0)(h0:0<l.length):((l.set 0 a).set j b)[0]? = some a:=by
 rw[List.getElem?_set_ne H,List.getElem?_set_self h0]
theorem TY{e:Type _}{l:List e}{j:Nat}{a b:e}(h:j<l.length):((l.set 0 a).set j b)[j]? = some b:=List.getElem?_set_self (by simpa using h)
theorem T9{e:Type _}{l:List e}{j k:Nat}{a b:e}(H:k≠j)(h0:k≠0):((l.set 0 a).set j b)[k]? = l[k]?:=by
 rw[List.getElem?_set_ne (Ne.symm H),List.getElem?_set_ne (Ne.symm h0)]
theorem G2.number(o:p.Ok)(h:G2 p gs W t rl tk next got){j:Nat}{r0 rj:bW}{x y:Goroutine}(hj:j≠0)(Ð:rl[0]? = some r0)(o8:rl[j]? = some rj)(hl:p.J0<=j)(ht:tk j=none)(hn:next<p.n){s d m:Nat}{fx fy:FuncId}{px py:String}
  (hs:gs'.size=gs.size) (hx:gs'[0]? = some x) (hy:gs'[j]? = some y) (hg:∀k,k≠0->k≠j->gs'[k]? = gs[k]?) (xr:x.status = .running) (yr:y.status = .running)
  (rx:Runs p.P true p.Ro (p.fq (next+1) got) x (sent (W.at d) p.cn s) r0.own) (ry:Runs p.P false p.Ro (p.kX next) y (sent (W.at d) p.cn s) rj.own) :
  G2 p gs' (sent (W.at d) p.cn s) (t++Ϸ 0 j p.cn m fx fy px py) ((rl.set 0 (.run true (p.fq (next+1) got) x (sent (W.at d) p.cn s) r0.own)).set j (.run false (p.kX next) y (sent (W.at d) p.cn s) rj.own)) (λk=>if k=j then some next else tk k) (next+1) got:=by
 have l0:=(List.getElem?_eq_some_iff.1 Ð).1;have lj:=(List.getElem?_eq_some_iff.1 o8).1;have nr:∀c,p.Sw c->¬ p.Ro c:=λc hc hr=>h.wi.ap.qM c hr hc
 have no:∀(c k:Nat) (r:bW),p.Sw c->rl[k]? = some r->¬ r.own c:=λc k r hc hk ho=>h.wi.ap.sw k c ⟨r,hk,ho⟩ hc
 have hJ:=lt_of_le_of_lt hl (h.len ▸ lj);obtain⟨xG,uL⟩:=h.sw hJ;obtain⟨s1,c1⟩:=h.qN hJ;obtain⟨s2,c2⟩:=h.chr hJ;have M:∀k,k≠j->(if k=j then some next else tk k)=tk k:=λk hk=>if_neg hk
 refine h.upd (λk=>k=0\/k=j) (by simp[h.len,hs]) hs (h.both hj Ð o8 hl (.inl ⟨rfl,rfl⟩) Jr Ð (λb Z=>.inl Z) (λb Z=>.inl Z) (λb h1 H=>hj (h.wi.ap.own j 0 b ⟨_,o8,H⟩ ⟨_,Ð,h1⟩)) (o.dm (lt_of_le_of_lt (zero_le _) hn))) (λ_=>zS c1) (λ_=>zS c2) (λb _ Z _=>?_) (λk hk=>?_)
  (λk r _ hk=>ji (.refl ..) (nr _ xG) (no _ _ _ xG hk)) (λk _ _ _=>⟨BP t k,O3⟩) (λ_=>⟨_,_,Gd hj l0,hx,rfl,rfl,rfl,xr,rx,.refl ..⟩) (λhk=>absurd (.inl rfl) hk) ?_ ?_ ?_ ?_ (λi J=>Nat.lt_succ_of_lt (h.gb i J)) h.gn hn ?_
 ·show (W.heap.modify p.cn _)[b]? = _;rw[Array.getElem?_modify,if_neg (Ne.symm Z)]
 ·have h1:k≠0:=λe=>hk (.inl e)
  have H:k≠j:=λe=>hk (.inr e)
  exact⟨T9 H h1,hg k h1 H,M k H⟩
 ·rintro k r z (rfl|rfl) hk U e2
  ·exact absurd rfl hk
  ·rw[TY lj] at U;cases U;rw[hy] at e2;cases e2;simp only[if_true];exact⟨hl,rfl,rfl,rfl,yr,ry,.refl ..⟩
 ·intro k i J;by_cases hk:k=j
  ·subst hk;simp only[if_true,Option.some.injEq] at J;subst J;refine⟨hl,by rw[<-h.len];exact lj,Nat.lt_succ_self _,λhm=>?_⟩;have:=h.gb _ hm;omega
  ·rw[M k hk] at J;obtain⟨a,b,c,d⟩:=h.qm k i J;exact⟨a,b,Nat.lt_succ_of_lt c,d⟩
 ·intro k k' i h1 H;by_cases hk:k=j<;>by_cases I:k'=j
  ·rw[hk,I]
  ·subst hk;simp only[if_true,Option.some.injEq] at h1;rw[M k' I] at H;have:=(h.qm k' i H).2.2.1;omega
  ·subst I;simp only[if_true,Option.some.injEq] at H;rw[M k hk] at h1;have:=(h.qm k i h1).2.2.1;omega
  ·rw[M k hk] at h1;rw[M k' I] at H;exact h.tk1 _ _ _ h1 H
 ·intro i J;by_cases hin:i=next
  ·subst hin;exact .inr ⟨j,if_pos rfl⟩
  ·rcases h.BO i bB with h1|⟨k,h1⟩
   ·exact .inl h1
   ·refine .inr ⟨k,?_⟩;rw[M k (by rintro rfl;rw[ht] at h1;cases h1)];exact h1
 ·intro g1 w1 O1 U;rw[Gd hj l0] at U;cases U
theorem G2.result(o:p.Ok)(h:G2 p gs W t rl tk next got){j i:Nat}{r0 rj:bW}{x y:Goroutine}(hj:j≠0)(Ð:rl[0]? = some r0)(o8:rl[j]? = some rj)(hl:p.J0<=j)(ht:tk j=some i){s d m:Nat}{fx fy:FuncId}{px py:String}
  (hs:gs'.size=gs.size) (hx:gs'[0]? = some x) (hy:gs'[j]? = some y) (hg:∀k,k≠0->k≠j->gs'[k]? = gs[k]?) (xr:x.status = .running) (yr:y.status = .running)
  (rx:Runs p.P true p.Ro (p.fq next (i::got)) x (sent (W.at d) p.cr s) λb=>r0.own b\/rj.own b) (ry:Runs p.P false p.Ro p.AtR y (sent (W.at d) p.cr s) λ_=>False) :
  G2 p gs' (sent (W.at d) p.cr s) (t++Ϸ j 0 p.cr m fx fy px py) ((rl.set 0 (.run true (p.fq next (i::got)) x (sent (W.at d) p.cr s) λb=>r0.own b\/rj.own b)).set j (.run false p.AtR y (sent (W.at d) p.cr s) λ_=>False)) (λk=>if k=j then none else tk k) next (i::got):=by
 have l0:=(List.getElem?_eq_some_iff.1 Ð).1;have lj:=(List.getElem?_eq_some_iff.1 o8).1;have nr:∀c,p.Sw c->¬ p.Ro c:=λc hc hr=>h.wi.ap.qM c hr hc
 have no:∀(c k:Nat) (r:bW),p.Sw c->rl[k]? = some r->¬ r.own c:=λc k r hc hk ho=>h.wi.ap.sw k c ⟨r,hk,ho⟩ hc
 have Z:=lt_of_le_of_lt hl (h.len ▸ lj);obtain⟨xG,uL⟩:=h.sw Z;obtain⟨s1,c1⟩:=h.qN Z;obtain⟨s2,c2⟩:=h.chr Z;obtain⟨_,_,hi,Yq⟩:=h.qm j i ht;have nt:∀k,k≠j->(if k=j then none else tk k)=tk k:=λk hk=>if_neg hk
 have nn:∀k H,(if k=j then none else tk k)=some H->k≠j/\tk k=some H:=by
  intro k H h1;by_cases hk:k=j
  ·rw[if_pos hk] at h1;cases h1
  ·rw[nt k hk] at h1;exact⟨hk,h1⟩
 refine h.upd (λk=>k=0\/k=j) (by simp[h.len,hs]) hs (h.both hj Ð o8 hl (.inr ⟨rfl,rfl⟩) Jr o8 (λb U=>U.imp id λh=>⟨rfl,h⟩) (λb U=>U.elim) (λb _ I=>I) (o.dm (lt_of_lt_of_le (lt_of_le_of_lt (zero_le _) hi) h.nn))) (λ_=>zS c1) (λ_=>zS c2) (λb _ _ U=>?_) (λk hk=>?_)
  (λk r _ hk=>ji (.refl ..) (nr _ uL) (no _ _ _ uL hk)) (λk _ _ _=>⟨BP t k,O3⟩) (λ_=>⟨_,_,Gd hj l0,hx,rfl,rfl,rfl,xr,rx,.refl ..⟩) (λhk=>absurd (.inl rfl) hk) ?_ ?_ ?_ ?_ ?_ ?_ h.nn ?_
 ·show (W.heap.modify p.cr _)[b]? = _;rw[Array.getElem?_modify,if_neg (Ne.symm U)]
 ·have h1:k≠0:=λe=>hk (.inl e)
  have I:k≠j:=λe=>hk (.inr e)
  exact⟨T9 I h1,hg k h1 I,nt k I⟩
 ·rintro k r z (rfl|rfl) hk M e2
  ·exact absurd rfl hk
  ·rw[TY lj] at M;cases M;rw[hy] at e2;cases e2;simp only[if_true];exact⟨hl,rfl,rfl,rfl,yr,ry,.refl ..⟩
 ·intro k H h1;obtain⟨hk,h1⟩:=nn k H h1;obtain⟨a,b,c,d⟩:=h.qm k H h1;refine⟨a,b,c,λJ=>?_⟩;rcases mem_cons.1 J with rfl|J
  ·exact hk (h.tk1 _ _ _ h1 ht)
  ·exact d J
 ·intro k k' H h1 I;exact h.tk1 _ _ _ (nn _ _ h1).2 (nn _ _ I).2
 ·intro H hi';rcases h.BO H hi' with h1|⟨k,h1⟩
  ·exact .inl (mem_cons_of_mem _ h1)
  ·by_cases hk:k=j
   ·subst hk;rw[ht] at h1;cases h1;exact .inl (mem_cons_self ..)
   ·exact .inr ⟨k,(nt k hk).trans h1⟩
 ·intro H J;rcases mem_cons.1 J with rfl|J
  ·exact hi
  ·exact h.gb _ J
 ·exact nodup_cons.2 ⟨Yq,h.gn⟩
 ·intro g1 w1 O1 M;rw[Gd hj l0] at M;cases M
end
end Px
namespace Px
open Go Go.Conc
def Fin(P:Program)(Q:Machine->Outcome->World->Trace->Prop)(m:Machine)(t:Trace):Prop:=∃N last o w' t',runNT P (N+1) m t=(.ended o w',t')/\runN P N m = .next last/\step P last = .ended o w'/\Q last o w' t'
theorem WH{P:Program}{Q:Machine->Outcome->World->Trace->Prop}{m e:Machine}{t u:Trace}(h:stepT P m=(.next e,u))(M:Fin P Q e (t++u)):Fin P Q m t:=by
 obtain⟨N,last,o,w',t',h1,H,I,J⟩:=M;refine⟨N+1,last,o,w',t',?_,?_,I,J⟩
 ·show (match stepT P m with|(.next m,ops)=>runNT P (N+1) m (t++ops)|(s,ops)=>(s,t++ops))=_;rw[h];exact h1
 ·show (match step P m with | .next m=>runN P N m|s=>s)=_;rw[show step P m = .next e from congrArg Prod.fst h];exact H
theorem WJ{P:Program}{Q:Machine->Outcome->World->Trace->Prop}{m:Machine}{t u:Trace}{o:Outcome}{w':World}(h:stepT P m=(.ended o w',u))(e:Q m o w' (t++u)):Fin P Q m t:=
 ⟨0,m,o,w',t++u,by show (match stepT P m with|(.next m,ops)=>runNT P 0 m (t++ops)|(s,ops)=>(s,t++ops))=_;rw[h],rfl,congrArg Prod.fst h,e⟩
def gK(P:Program)(Q:Machine->Outcome->World->Trace->Prop)(gs:Array Goroutine)(w:World)(t:Trace):Prop:=∀sl,Fin P Q (crowd gs w sl) t
def iQ(P:Program)(Q:Machine->Outcome->World->Trace->Prop)(gs:Array Goroutine)(w:World)(t:Trace)(i d:Nat)(sl:Option (Nat×Nat)):Prop:=(∃gs' w' u,runT P (crowd gs (w.at d) sl) i=(.next (crowd gs' w' sl),u)/\gK P Q gs' w' (t++u)) \/
 ∃o w' u,runT P (crowd gs (w.at d) sl) i=(.ended o w',u)/\∀sl',Q (crowd gs w sl') o w' (t++u)
theorem Ip{P:Program}{Q:Machine->Outcome->World->Trace->Prop}{gs:Array Goroutine}{w:World}{t:Trace}(J:∀g,g∈gs->awake g)(run:∃(i:Nat) (g:Goroutine),gs[i]? = some g/\g.status = .running)
  (H:∀(i:Nat) (g:Goroutine) (d:Nat) (sl:Option (Nat×Nat)),gs[i]? = some g->g.status = .running->iQ P Q gs w t i d sl):gK P Q gs w t:=by
 intro sl;obtain⟨i,g,d,e,h1,M,I⟩:=crowd_pick (P:=P) (w:=w) (sl:=sl) J run;rcases H i g d e h1 M with⟨gs',w',u,h4,h5⟩|⟨o,w',u,h4,h5⟩
 ·exact WH (I.trans h4) (h5 e)
 ·exact WJ (I.trans h4) (h5 sl)
section
variable {p:Pl} {gs gs':Array Goroutine} {W W':World} {t:Trace} {rl:List bW} {tk:Nat->Option Nat} {next:Nat} {got:List Nat}
theorem uQ{i hh hk r:Nat}{send:Bool}(Z:i<gs.size)(h:(hh,hk)∈partners (gs.setIfInBounds i ph) r send):hh≠i/\∃g cs sh c,gs[hh]? = some g/\g.status = .blocked/\g.offers=some (cs,sh)/\cs[hk]? = some c/\c.send.isSome=send/\c.chan = .chan (some r):=by
 obtain⟨g,cs,sh,c,h1,e,I,J,M,U⟩:=mem_partners.1 h;have H:hh≠i:=by
  rintro rfl;rw[get_set_same Z] at h1;cases h1;cases e
 exact⟨H,g,cs,sh,c,by rwa [cZ (Ne.symm H)] at h1,e,I,J,M,U⟩
theorem uR{i hh hk r:Nat}{send:Bool}{g:Goroutine}{cs:Array CommCase}{sh:CommShape}{c:CommCase}(U:hh≠i)(h1:gs[hh]? = some g)(e:g.status = .blocked)(H:g.offers=some (cs,sh))(I:cs[hk]? = some c)(J:c.send.isSome=send)(M:c.chan = .chan (some r)):
  (hh,hk)∈partners (gs.setIfInBounds i ph) r send:=mem_partners.2 ⟨g,cs,sh,c,by rw[cZ (Ne.symm U)];exact h1,e,H,I,J,M⟩
theorem Gf{i hh hk:Nat}{g:Goroutine}{cs:Array CommCase}{sh:CommShape}{c:CommCase}{v:Value}(J:hh≠i)(h1:gs[hh]? = some g)(e:g.offers=some (cs,sh))(H:cs[hk]? = some c)(I:c.send=some v):offeredValue (gs.setIfInBounds i ph) hh hk=v:=by
 unfold offeredValue;rw[cZ (Ne.symm J),h1];simp[e,H,I]
theorem G2.who(h:G2 p gs W t rl tk next got){k:Nat}{g:Goroutine}(M:gs[k]? = some g)(U:g.status = .blocked):∃e I O,rl[k]? = some (.idle e I O)/\(k=0->r9 p next got (.idle e I O) g W)/\(k≠0->jA p k (tk k) (.idle e I O) g W t):=by
 by_cases hk:k=0
 ·subst hk;obtain⟨r,x,h1,Z,J⟩:=h.main;rw[M] at Z;cases Z;match r,J with
  | .run ..,⟨_,_,_,h4,_⟩=>rw[U] at h4;cases h4
  | .idle e I O,h4=>exact⟨_,_,_,h1,λ_=>h4,λh=>absurd rfl h⟩
 ·obtain⟨ύ,_⟩:=Array.getElem?_eq_some_iff.1 M;obtain⟨r,H⟩:∃r,rl[k]? = some r:=⟨rl[k]'(by rw[h.len];exact ύ),eO⟩;have J:=h.work k r g hk H M;match r,J with
  | .run ..,⟨_,_,_,_,h4,_⟩=>rw[U] at h4;cases h4
  | .idle e I O,h4=>exact⟨_,_,_,H,λh=>absurd h hk,λ_=>h4⟩
  | .quit _,⟨_,h4,_⟩=>rcases j3 h4 with h|h<;>(rw[U] at h;cases h)
theorem G2.WK(h:G2 p gs W t rl tk next got):Acc (LL (Jq p.P p.Ro)) rl:=by
 refine EX λr hr=>?_
 obtain⟨j,H⟩:=mem_iff_getElem?.1 hr;have M:=(List.getElem?_eq_some_iff.1 H).1;by_cases I:j=0
 ·subst I;obtain⟨r',x,h1,U,e⟩:=h.main;rw[H] at h1;cases h1;match r,e with
  | .run ..,⟨h1,_,_,_,h4,_⟩=>subst h1;exact h4.acc
  | .idle ..,_=>exact vW
 ·obtain⟨x,J⟩:∃x,gs[j]? = some x:=⟨gs[j]'(by rw[<-h.len];exact M),eO⟩;have e:=h.work j r x I H J;match r,e with
  | .run ..,⟨_,h1,_,_,_,h4,_⟩=>subst h1;exact h4.acc
  | .idle ..,_=>exact vW
  | .quit _,_=>exact LC _
theorem G2.awake(h:G2 p gs W t rl tk next got):∀g,g∈gs->awake g:=by
 intro g U k e;obtain⟨j,I⟩:=Array.mem_iff_getElem?.1 U;have Z:=(Array.getElem?_eq_some_iff.1 I).1;by_cases M:j=0
 ·subst M;obtain⟨r',x,h1,J,H⟩:=h.main;rw[I] at J;cases J;match r',H with
  | .run ..,⟨_,_,_,h4,_⟩=>rw[e] at h4;cases h4
  | .idle ..,⟨_,⟨_,_,_,_,h4⟩,_⟩=>rw[h4] at e;cases e
 ·obtain⟨r,hr⟩:∃r,rl[j]? = some r:=⟨rl[j]'(by rw[h.len];exact Z),eO⟩;have H:=h.work j r g M hr I;match r,H with
  | .run ..,⟨_,_,_,_,h4,_⟩=>rw[e] at h4;cases h4
  | .idle ..,⟨_,⟨_,_,_,_,h4⟩,_⟩=>rw[h4] at e;cases e
  | .quit _,⟨_,h4,_⟩=>rcases j3 h4 with h|h<;>(rw[e] at h;cases h)
theorem G2.runs(o:p.Ok)(h:G2 p gs W t rl tk next got)(hg:got.length<p.n):∃(i:Nat) (g:Goroutine),gs[i]? = some g/\g.status = .running:=by
 obtain⟨r,x,h1,h2,I⟩:=h.main;match r,I with
 | .run ..,⟨_,_,_,h4,_⟩=>exact⟨0,x,h2,h4⟩
 | .idle g0 w0 O,_=>
  have hw:=h.wait _ _ _ h1;have H:∀j,p.J0<=j->j<gs.size->0≠j->(tk j≠none\/next<p.n)->∃(i:Nat) (g:Goroutine),gs[i]? = some g/\g.status = .running:=by
   intro j hJ e Z ht;obtain⟨r,hr⟩:∃r,rl[j]? = some r:=⟨rl[j]'(by rw[h.len];exact e),eO⟩;obtain⟨y,U⟩:∃y,gs[j]? = some y:=⟨gs[j],by simp[e]⟩;have I:=h.work j r y (Ne.symm Z) hr U;match r,I with
   | .run ..,⟨_,_,_,_,h4,_⟩=>exact⟨j,y,U,h4⟩
   | .idle ..,_=>
    obtain⟨e1,e2⟩:=hw j _ _ _ (Ne.symm Z) hr;exact ht.elim (λh=>absurd e1 h) λh=>absurd h e2
   | .quit _,⟨h4,_⟩=>omega
  by_cases ċ:next<p.n
  ·exact H p.J0 (le_refl _) (h.one (lt_of_le_of_lt (zero_le _) hg)) (by have:=o.j0;omega) (.inr ċ)
  ·have:∃i,i<next/\i∉got:=by
    apply Classical.byContradiction;intro Ā;have:=(nodup_range (n:=next)).length_le_of_subset (l₂:=got) λi J=>Classical.byContradiction λM=>Ā ⟨i,mem_range.1 J,M⟩
    rw[length_range] at this;omega
   obtain⟨i,J,M⟩:=this;obtain⟨j,e⟩:=(h.BO i J).resolve_left M;obtain⟨a,b,_⟩:=h.qm j i e;exact H j a b (by have:=o.j0;omega) (.inl (by rw[e];exact λh=>by cases h))
theorem mM{e:Type _}{a x:e}{k:Nat}(h:#[a][k]? = some x):k=0/\x=a:=by
 match k with
 | 0=>exact⟨rfl,by simpa using h.symm⟩
 | k+1=>simp at h
theorem QX{k:Nat}{c:CommCase}(h:(p.cM next)[k]? = some c):(k=0/\c=⟨.chan (if next<p.n then some p.cn else none),some (goInt next),p.e0⟩)\/(k=1/\c=⟨.chan (some p.cr),none,p.e1⟩):=by
 match k with
 | 0=>exact .inl ⟨rfl,by simpa [Pl.cM] using h.symm⟩
 | 1=>exact .inr ⟨rfl,by simpa [Pl.cM] using h.symm⟩
 | k+2=>simp[Pl.cM] at h
theorem Yr{i hh:Nat}{x y:Goroutine}(I:i<gs.size)(J:hh≠i)(e:hh<gs.size):((gs.setIfInBounds hh y).setIfInBounds i x).size=gs.size/\((gs.setIfInBounds hh y).setIfInBounds i x)[i]? = some x/\((gs.setIfInBounds hh y).setIfInBounds i x)[hh]? = some y /\
  ∀k,k≠i->k≠hh->((gs.setIfInBounds hh y).setIfInBounds i x)[k]? = gs[k]?:=
 ⟨eO,get_set_same (by simpa using I) _,by rw[cZ (Ne.symm J)];exact get_set_same e _,λk h1 H=>by rw[cZ (Ne.symm h1),cZ (Ne.symm H)]⟩
variable {Q:Machine->Outcome->World->Trace->Prop}
def Next(p:Pl)(Q:Machine->Outcome->World->Trace->Prop)(N E:Nat):Prop:=∀gs W t rl tk next got,G2 p gs W t rl tk next got->gs.size=N->(p.n-next)+(p.n-got.length)<E->gK p.P Q gs W t
theorem Ua(o:p.Ok)(h:G2 p gs W t rl tk next got)(hg:got.length<p.n){N:Nat}(hz:gs.size=N)(nx:Next p Q N ((p.n-next)+(p.n-got.length))){g:Goroutine}{w:World}{O:Nat->Prop}{sl:Option (Nat×Nat)}(hj:rl[0]? = some (.run true (p.fq next got) g w O))(hx:gs[0]? = some g)(Ϗ:∀Z,Keep p.Ro O w Z->p.fq next got g Z O)(hk:Keep p.Ro O w W)
  (pW:∀x',G2 p (gs.setIfInBounds 0 x') W t (rl.set 0 (.idle g W O)) tk next got->gK p.P Q (gs.setIfInBounds 0 x') W t) :
  ∃gs' w' u,runT p.P (crowd gs W sl) 0=(.next (crowd gs' w' sl),u)/\gK p.P Q gs' w' (t++u):=by
 obtain⟨ύ,_⟩:=Array.getElem?_eq_some_iff.1 hx;have hJ:=h.one (lt_of_le_of_lt (zero_le _) hg);obtain⟨xG,uL⟩:=h.sw hJ;obtain⟨s1,c1⟩:=h.qN hJ;obtain⟨s2,c2⟩:=h.chr hJ;obtain⟨g1,hs,hn,hr⟩:=o.hM _ _ _ _ _ (Ϗ _ hk) hg;rw[xE hx (by exact hs)];have I:∀c,p.Sw c->¬ p.Ro c:=λc hc hr=>h.wi.ap.qM c hr hc
 have Ec:∀(c k:Nat) (r:bW),p.Sw c->rl[k]? = some r->¬ r.own c:=λc k r hc hk ho=>h.wi.ap.sw k c ⟨r,hk,ho⟩ hc
 have Ĕ:∀(k:Nat) (c:CommCase),(p.cM next)[k]? = some c->c.chan = .chan none\/∃r s,c.chan = .chan (some r)/\kW W r s:=by
  intro k c hc;rcases TV (Array.mem_of_getElem? hc) with h|h|h
  ·exact .inl h
  ·exact .inr ⟨_,_,h,c1⟩
  ·exact .inr ⟨_,_,h,c2⟩
 rcases BM (P:=p.P) (gs:=gs.setIfInBounds 0 ph) (i:=0) (g:=g1) (gy:=p.cM next) (shape:=.select) (w:=W) (sl:=sl) Ĕ with⟨e,Ā⟩|⟨k,c,r,s,hh,hk',dd,hc,ė,Ĕ,hp,hw⟩
 ·refine⟨_,_,_,e,?_⟩;rw[set_set,Array.append_empty];refine pW _ (h.pW hj Ϗ ⟨g1,_,_,hs,rfl⟩ rfl (λ_=>⟨hg,λk g' w' O' Ϭ hk'=>?_⟩) λh=>absurd rfl h);obtain⟨y,M⟩:∃y,gs[k]? = some y:=⟨gs[k]'(by rw[<-h.len];exact (List.getElem?_eq_some_iff.1 hk').1),eO⟩;have H:=h.work k _ y Ϭ hk' M;cases J:tk k with
  | none=>
   rw[J] at H;obtain⟨y1,rfl,_⟩:=jA.free o H;refine⟨rfl,λċ=>?_⟩;have e:partners (gs.setIfInBounds 0 ph) p.cn false = []:=Ā 0 ⟨.chan (if next<p.n then some p.cn else none),some (goInt next),p.e0⟩ p.cn (by simp[Pl.cM]) (by simp[ċ]);exact absurd (uR (send:=false) (hk:=0) Ϭ M rfl rfl rfl rfl rfl) (by rw[e];exact not_mem_nil)
  | some i=>
   rw[J] at H;obtain⟨y1,v,rfl,_⟩:=jA.busy o H;have e:partners (gs.setIfInBounds 0 ph) p.cr true = []:=Ā 1 ⟨.chan (some p.cr),none,p.e1⟩ p.cr (by simp[Pl.cM]) rfl;exact absurd (uR (send:=true) (hk:=0) Ϭ M rfl rfl rfl rfl rfl) (by rw[e];exact not_mem_nil)
 ·obtain⟨U,y,cs,sh,c',M,θ,AZ,y8,Λ,hcc⟩:=uQ ύ hp;obtain⟨g0,w0,O',ħ,_,hy2⟩:=h.who M θ;have H:=hy2 U;have Ş:=(Array.getElem?_eq_some_iff.1 M).1;rcases QX hc with⟨rfl,rfl⟩|⟨rfl,rfl⟩
  ·have ċ:next<p.n:=by
    apply Classical.byContradiction;intro ċ;rw[if_neg ċ] at ė;cases ė
   rw[if_pos ċ] at ė;cases ė;rcases hw with⟨v,hv,e⟩|⟨hv,_⟩
   ·cases hv;cases J:tk hh with
    | some i=>
     rw[J] at H;obtain⟨y1,v,rfl,_⟩:=jA.busy o H;cases AZ;obtain⟨rfl,rfl⟩:=mM y8;cases Λ
    | none=>
     rw[J] at H;obtain⟨y1,rfl,hy3⟩:=jA.free o H;cases AZ;obtain⟨rfl,rfl⟩:=mM y8;refine⟨_,_,_,e,?_⟩;rw[uP U M rfl];obtain⟨z1,z2,z3,z4⟩:=Yr (gs:=gs) (x:=g1.finishComm p.P (p.cM next) .select (0:Nat) undef false) (y:=served { y1 with status:=.blocked,offers:=some (#[p.cR],.recv true) } (commResult #[p.cR] (.recv true) (0:Nat) (goInt next) true)) ύ U Ş;refine nx _ _ _ _ _ (next+1) got (h.number o U hj ħ H.1 J ċ z1 z2 z3 (λk h1 h2=>z4 k h1 h2) rfl rfl ?_ ?_) (z1.trans hz) bB
     ·exact hn ċ _ (ji (.refl ..) (I _ xG) (Ec _ _ _ xG hj))
     ·exact hy3 next ċ _ (ji H.2.2.1 (I _ xG) (Ec _ _ _ xG ħ))
   ·cases hv
  ·cases ė;rcases hw with⟨v,hv,_⟩|⟨_,e⟩
   ·cases hv
   ·cases J:tk hh with
    | none=>
     rw[J] at H;obtain⟨y1,rfl,_⟩:=jA.free o H;cases AZ;obtain⟨rfl,rfl⟩:=mM y8;cases Λ
    | some i=>
     rw[J] at H;obtain⟨y1,v,rfl,hy3,hy4⟩:=jA.busy o H;cases AZ;obtain⟨rfl,rfl⟩:=mM y8;refine⟨_,_,_,e,?_⟩;obtain⟨_,_,hi,him⟩:=h.qm hh i J;rw[uP U M rfl,Gf U M rfl rfl rfl];obtain⟨z1,z2,z3,z4⟩:=Yr (gs:=gs) (x:=g1.finishComm p.P (p.cM next) .select (1:Nat) v true) (y:=served { y1 with status:=.blocked,offers:=some (#[p.cS v],.send) } (commResult #[p.cS v] .send (0:Nat) undef false)) ύ U Ş;refine nx _ _ _ _ _ next (i::got) (h.result o U hj ħ H.1 J z1 z2 z3 (λk h1 h2=>z4 k h1 h2) rfl rfl ?_ ?_) (z1.trans hz) (by simp only[length_cons];omega)
     ·exact hr i v O' _ hi him (ji (.refl ..) (I _ uL) (Ec _ _ _ uL hj)) (hy3 _ (ji H.2.2.1 (I _ uL) (Ec _ _ _ uL ħ))) λb h1 h2=>U (h.wi.ap.own hh 0 b ⟨_,ħ,h1⟩ ⟨_,hj,h2⟩)
     ·exact hy4 _ (ji ⟨H.2.2.1.size,λb hb=>H.2.2.1.same b (hb.imp id False.elim),H.2.2.1.env⟩ (I _ uL) id)
end
end Px
namespace Px
open Go Go.Conc
section
variable {p:Pl} {gs gs':Array Goroutine} {W W':World} {t:Trace} {rl:List bW} {tk:Nat->Option Nat} {next:Nat} {got:List Nat} {Q:Machine->Outcome->World->Trace->Prop}
theorem Yt{j:Nat}{x y:Goroutine}(H:j<gs.size)(I:0≠j)(h0:0<gs.size):((gs.setIfInBounds 0 x).setIfInBounds j y).size=gs.size/\((gs.setIfInBounds 0 x).setIfInBounds j y)[0]? = some x/\((gs.setIfInBounds 0 x).setIfInBounds j y)[j]? = some y /\
  ∀k,k≠0->k≠j->((gs.setIfInBounds 0 x).setIfInBounds j y)[k]? = gs[k]?:=
 ⟨eO,by rw[cZ (Ne.symm I)];exact get_set_same h0 _,get_set_same (by simpa using H) _,λk h1 e=>by rw[cZ (Ne.symm e),cZ (Ne.symm h1)]⟩
theorem Ub(o:p.Ok)(h:G2 p gs W t rl tk next got){N:Nat}(hz:gs.size=N)(nx:Next p Q N ((p.n-next)+(p.n-got.length))){j:Nat}(ϧ:j≠0)(hJ:p.J0<=j)(htj:tk j=none){g:Goroutine}{w:World}{O:Nat->Prop}{sl:Option (Nat×Nat)}(hj:rl[j]? = some (.run false p.AtR g w O))(hx:gs[j]? = some g)(Ϗ:∀I,Keep p.Ro O w I->p.AtR g I O)
  (hk:Keep p.Ro O w W) (pW:∀x',G2 p (gs.setIfInBounds j x') W t (rl.set j (.idle g W O)) tk next got->gK p.P Q (gs.setIfInBounds j x') W t):∃gs' w' u,runT p.P (crowd gs W sl) j=(.next (crowd gs' w' sl),u)/\gK p.P Q gs' w' (t++u):=by
 obtain⟨ύ,_⟩:=Array.getElem?_eq_some_iff.1 hx;have U:=lt_of_le_of_lt hJ ύ;obtain⟨xG,uL⟩:=h.sw U;obtain⟨s1,c1⟩:=h.qN U;obtain⟨g1,hs,hn⟩:=o.hR _ _ _ (Ϗ _ hk);have hm:=beq_eq_false_iff_ne.2 ϧ;rw[xE hx (by rw[hm];exact hs)];have nor:∀c,p.Sw c->¬ p.Ro c:=λc hc hr=>h.wi.ap.qM c hr hc
 have Ec:∀(c k:Nat) (r:bW),p.Sw c->rl[k]? = some r->¬ r.own c:=λc k r hc hk ho=>h.wi.ap.sw k c ⟨r,hk,ho⟩ hc
 have Ĕ:∀(k:Nat) (c:CommCase),#[p.cR][k]? = some c->c.chan = .chan none\/∃r s,c.chan = .chan (some r)/\kW W r s:=by
  intro k c hc;obtain⟨rfl,rfl⟩:=mM hc;exact .inr ⟨_,_,rfl,c1⟩
 rcases BM (P:=p.P) (gs:=gs.setIfInBounds j ph) (i:=j) (g:=g1) (gy:=#[p.cR]) (shape:=.recv true) (w:=W) (sl:=sl) Ĕ with⟨e,Ā⟩|⟨k,c,r,s,hh,hk',dd,hc,ė,Ĕ,hp,hw⟩
 ·refine⟨_,_,_,e,?_⟩;rw[set_set,Array.append_empty];refine pW _ (h.pW hj Ϗ ⟨g1,_,_,hs,rfl⟩ hm.symm (λh=>absurd h ϧ) λ_ ⟨g0,w0,O0,h0⟩=>⟨htj,λM=>?_⟩);obtain⟨r0,x0,h1,h2,h3⟩:=h.main;rw[h0] at h1;cases h1;obtain⟨x1,rfl,_⟩:=r9.parked o h3;have e:partners (gs.setIfInBounds j ph) p.cn true = []:=Ā 0 p.cR p.cn eO rfl;exact absurd (uR (send:=true) (hk:=0) (r:=p.cn) (c:=⟨.chan (if next<p.n then some p.cn else none),some (goInt next),p.e0⟩) (Ne.symm ϧ) h2 rfl rfl (by simp[Pl.cM]) rfl (by simp[M])) (by rw[e];exact not_mem_nil)
 ·obtain⟨ϝ,y,cs,sh,c',hy,θ,AZ,y8,Λ,J⟩:=uQ ύ hp;obtain⟨rfl,rfl⟩:=mM hc;cases ė;obtain⟨g0,w0,O',ħ,hyM,hyW⟩:=h.who hy θ;have Ş:=(Array.getElem?_eq_some_iff.1 hy).1;by_cases Z:hh=0
  ·subst Z;have H:=hyM rfl;obtain⟨y1,rfl,hy3,_⟩:=r9.parked o H;cases AZ;rcases hw with⟨v,hv,_⟩|⟨_,e⟩
   ·cases hv
   ·rcases QX y8 with⟨rfl,rfl⟩|⟨rfl,rfl⟩
    ·have M:next<p.n:=by
      apply Classical.byContradiction;intro M;rw[if_neg M] at J;cases J
     refine⟨_,_,_,e,?_⟩;rw[uP ϝ hy rfl,Gf ϝ hy rfl y8 rfl];obtain⟨z1,z2,z3,z4⟩:=Yt (gs:=gs) (y:=g1.finishComm p.P #[p.cR] (.recv true) (0:Nat) (goInt next) true) (x:=served { y1 with status:=.blocked,offers:=some (p.cM next,.select) } (commResult (p.cM next) .select (0:Nat) undef false)) ύ ϝ Ş;have hl:=H.1;refine nx _ _ _ _ _ (next+1) got (h.number o ϧ ħ hj hJ htj M z1 z2 z3 z4 rfl rfl ?_ ?_) (z1.trans hz) bB
     ·exact hy3 M _ (ji H.2.2.1 (nor _ xG) (Ec _ _ _ xG ħ))
     ·exact hn next M _ (ji (.refl ..) (nor _ xG) (Ec _ _ _ xG hj))
    ·cases Λ
  ·have H:=hyW Z;cases Æ:tk hh with
   | none=>
    rw[Æ] at H;obtain⟨y1,rfl,_⟩:=jA.free o H;cases AZ;obtain⟨rfl,rfl⟩:=mM y8;cases Λ
   | some i=>
    rw[Æ] at H;obtain⟨y1,v,rfl,_⟩:=jA.busy o H;cases AZ;obtain⟨rfl,rfl⟩:=mM y8;have WL:=Value.chan.inj J;exact absurd (Option.some.inj WL).symm o.ne
theorem Uc(o:p.Ok)(h:G2 p gs W t rl tk next got){N:Nat}(hz:gs.size=N)(nx:Next p Q N ((p.n-next)+(p.n-got.length))){j i:Nat}(ϧ:j≠0)(hJ:p.J0<=j)(Z:tk j=some i){g:Goroutine}{w:World}{O:Nat->Prop}{sl:Option (Nat×Nat)}(hj:rl[j]? = some (.run false (p.kX i) g w O))(hx:gs[j]? = some g)(Ϗ:∀I,Keep p.Ro O w I->p.kX i g I O)
  (hk:Keep p.Ro O w W) (pW:∀x',G2 p (gs.setIfInBounds j x') W t (rl.set j (.idle g W O)) tk next got->gK p.P Q (gs.setIfInBounds j x') W t):∃gs' w' u,runT p.P (crowd gs W sl) j=(.next (crowd gs' w' sl),u)/\gK p.P Q gs' w' (t++u):=by
 obtain⟨ύ,_⟩:=Array.getElem?_eq_some_iff.1 hx;have M:=lt_of_le_of_lt hJ ύ;obtain⟨xG,uL⟩:=h.sw M;obtain⟨s1,c1⟩:=h.chr M;obtain⟨g1,v,hs,Ē,hn⟩:=o.hS _ _ _ _ (Ϗ _ hk);have hm:=beq_eq_false_iff_ne.2 ϧ;rw[xE hx (by rw[hm];exact hs)];have J:∀c,p.Sw c->¬ p.Ro c:=λc hc hr=>h.wi.ap.qM c hr hc
 have Ec:∀(c k:Nat) (r:bW),p.Sw c->rl[k]? = some r->¬ r.own c:=λc k r hc hk ho=>h.wi.ap.sw k c ⟨r,hk,ho⟩ hc
 have Ĕ:∀(k:Nat) (c:CommCase),#[p.cS v][k]? = some c->c.chan = .chan none\/∃r s,c.chan = .chan (some r)/\kW W r s:=by
  intro k c hc;obtain⟨rfl,rfl⟩:=mM hc;exact .inr ⟨_,_,rfl,c1⟩
 rcases BM (P:=p.P) (gs:=gs.setIfInBounds j ph) (i:=j) (g:=g1) (gy:=#[p.cS v]) (shape:=.send) (w:=W) (sl:=sl) Ĕ with⟨e,Ā⟩|⟨k,c,r,s,hh,hk',dd,hc,ė,Ĕ,hp,hw⟩
 ·refine⟨_,_,_,e,?_⟩;rw[set_set,Array.append_empty];refine pW _ (h.pW hj Ϗ ⟨g1,_,_,hs,rfl⟩ hm.symm (λh=>absurd h ϧ) λ_ ⟨g0,w0,O0,h0⟩=>?_);obtain⟨r0,x0,h1,h2,h3⟩:=h.main;rw[h0] at h1;cases h1;obtain⟨x1,rfl,_⟩:=r9.parked o h3;have e:partners (gs.setIfInBounds j ph) p.cr false = []:=Ā 0 (p.cS v) p.cr eO rfl;exact absurd (uR (send:=false) (hk:=1) (c:=⟨.chan (some p.cr),none,p.e1⟩) (Ne.symm ϧ) h2 rfl rfl (by simp[Pl.cM]) rfl rfl) (by rw[e];exact not_mem_nil)
 ·obtain⟨ϝ,y,cs,sh,c',hy,θ,AZ,y8,Λ,hcc⟩:=uQ ύ hp;obtain⟨rfl,rfl⟩:=mM hc;cases ė;obtain⟨g0,w0,O',ħ,hyM,hyW⟩:=h.who hy θ;have Ş:=(Array.getElem?_eq_some_iff.1 hy).1;by_cases U:hh=0
  ·subst U;have H:=hyM rfl;obtain⟨y1,rfl,_,hy3⟩:=r9.parked o H;cases AZ;rcases hw with⟨v',hv,e⟩|⟨hv,_⟩
   ·cases hv;rcases QX y8 with⟨rfl,rfl⟩|⟨rfl,rfl⟩
    ·cases Λ
    ·refine⟨_,_,_,e,?_⟩;rw[uP ϝ hy rfl];obtain⟨_,_,hi,him⟩:=h.qm j i Z;obtain⟨z1,z2,z3,z4⟩:=Yt (gs:=gs) (y:=g1.finishComm p.P #[p.cS v] .send (0:Nat) undef false) (x:=served { y1 with status:=.blocked,offers:=some (p.cM next,.select) } (commResult (p.cM next) .select (1:Nat) v true)) ύ ϝ Ş;have hl:=H.1;refine nx _ _ _ _ _ next (i::got) (h.result o ϧ ħ hj hJ Z z1 z2 z3 z4 rfl rfl ?_ ?_) (z1.trans hz) (by simp only[length_cons];omega)
     ·exact hy3 i v O _ hi him (ji H.2.2.1 (J _ uL) (Ec _ _ _ uL ħ)) (Ē _ (ji (.refl ..) (J _ uL) (Ec _ _ _ uL hj))) λb h1 h2=>ϧ (h.wi.ap.own j 0 b ⟨_,hj,h1⟩ ⟨_,ħ,h2⟩)
     ·exact hn _ (ji (.refl ..) (J _ uL) id)
   ·cases hv
  ·have H:=hyW U;cases Æ:tk hh with
   | none=>
    rw[Æ] at H;obtain⟨y1,rfl,_⟩:=jA.free o H;cases AZ;obtain⟨rfl,rfl⟩:=mM y8;have WL:=Value.chan.inj hcc;exact absurd (Option.some.inj WL) o.ne
   | some i'=>
    rw[Æ] at H;obtain⟨y1,v',rfl,_⟩:=jA.busy o H;cases AZ;obtain⟨rfl,rfl⟩:=mM y8;cases Λ
theorem gather(o:p.Ok){N:Nat}(Exit:∀gs W t rl tk next got,G2 p gs W t rl tk next got->gs.size=N->got.length=p.n->∀g w O,rl[0]? = some (.run true (p.fq next got) g w O)->gs[0]? = some g->(∀e,Keep p.Ro O w e->p.fq next got g e O)->Keep p.Ro O w W->∀d sl,iQ p.P Q gs W t 0 d sl):
  ∀E,Next p Q N E:=by
 intro E;induction E with
 | zero=>intro gs W t rl tk next got _ _ hE;omega
 | succ E ihE=>
  intro gs W t rl tk next got h M hE;have nx:∀ {next:Nat} {got:List Nat},(p.n-next)+(p.n-got.length)<E+1->Next p Q N ((p.n-next)+(p.n-got.length)):=λhE gs W t rl tk next' got' h' hz' hE'=>ihE gs W t rl tk next' got' h' hz' bB
  have acc:=h.WK;induction acc generalizing gs W t with
  | intro rl _ ih=>
   have é:got.length<=p.n:=by
    have:=h.gn.length_le_of_subset (l₂:=List.range next) λi hi=>mem_range.2 (h.gb i hi)
    rw[length_range] at this;exact le_trans this h.nn
   refine Ip h.awake ?_ λi g d sl I ϳ=>?_
   ·by_cases ύ:got.length<p.n
    ·exact h.runs o ύ
    ·obtain⟨r,x,h1,h2,U⟩:=h.main;match r,U with
     | .run ..,⟨_,_,_,h4,_⟩=>exact⟨0,x,h2,h4⟩
     | .idle ..,U=>exact absurd U.1 ύ
   have hW:=h.at d;obtain⟨ύ,_⟩:=Array.getElem?_eq_some_iff.1 I;obtain⟨r,hr⟩:∃r,rl[i]? = some r:=⟨rl[i]'(by rw[h.len];exact ύ),eO⟩;have own:∀ {m:Bool} {S:aR} {w:World} {O:Nat->Prop},m=(i==0)->p.live gs.size i->rl[i]? = some (.run m S g w O)->Runs p.P m p.Ro S g w O->Keep p.Ro O w W->(¬ ∀e,Keep p.Ro O w e->S g e O) ->
     ∃gs' w' u,runT p.P (crowd gs (W.at d) sl) i=(.next (crowd gs' w' sl),u)/\gK p.P Q gs' w' (t++u):=by
    intro m S w O hm hl tQ hR hk hns;cases hR with
    | stop H=>exact absurd H hns
    | step h1 h2=>
     have ņ:Keep p.Ro O w (W.at d):=hk.trans (iN ..);obtain⟨g',w',es,J,e2,e3⟩:=h1 _ ņ;have hG:=hW.own g.frame.fn g.frame.place tQ hl e3 e2 (h2 _ _ _ _ ņ J);refine⟨_,_,_,runT_crowd_go I (by rw[<-hm];exact J),?_⟩;rw[h.woken o (w':=w') (λZ=>hG.qN (by simpa using Z)) λZ=>hG.chr (by simpa using Z)];exact ih _ (.mk tQ (.step hns ņ J)) _ _ _ hG (by simpa using M)
   by_cases χ:i=0
   ·subst χ;obtain⟨r',x,h1,h2,U⟩:=h.main;rw[I] at h2;cases h2;match r',U with
    | .run m S g' w O,⟨J,e2,e3,h4,h5,h6⟩=>
     subst J e2 e3;by_cases H:∀e,Keep p.Ro O w e->p.fq next got g e O
     ·by_cases ϝ:got.length=p.n
      ·exact Exit _ _ _ _ _ _ _ h M ϝ g w O h1 I H h6 d sl
      have hl:got.length<p.n:=by
       rcases lt_or_ge got.length p.n with h|h
       ·exact h
       ·exact absurd bB ϝ
      exact .inl <| Ua o hW hl M (nx hE) h1 I H (h6.trans (iN ..)) λx' hG=>ih _ (.mk h1 .pW) _ _ _ hG (by simpa using M)
     ·exact .inl <| own rfl (.inl rfl) h1 h5 h6 H
    | .idle ..,⟨_,⟨_,_,_,_,h4⟩,_⟩=>rw[h4] at ϳ;cases ϳ
   ·have U:=h.work i r g χ hr I;have hm:=(beq_eq_false_iff_ne.2 χ).symm;match r,U with
    | .run m S g' w O,⟨Z,J,e2,e3,h4,h5,h6⟩=>
     subst J e2 e3;by_cases H:∀e,Keep p.Ro O w e->p.sk (tk i) g e O
     ·cases Æ:tk i with
      | none=>
       rw[Æ] at H hr;exact .inl <| Ub o hW M (nx hE) χ Z Æ hr I H (h6.trans (iN ..)) λx' hG=>ih _ (.mk hr .pW) _ _ _ hG (by simpa using M)
      | some k=>
       rw[Æ] at H hr;exact .inl <| Uc o hW M (nx hE) χ Z Æ hr I H (h6.trans (iN ..)) λx' hG=>ih _ (.mk hr .pW) _ _ _ hG (by simpa using M)
     ·exact .inl <| own hm (.inr ⟨Z,ύ⟩) hr h5 h6 H
    | .idle ..,⟨_,⟨_,_,_,_,h4⟩,_⟩=>rw[h4] at ϳ;cases ϳ
    | .quit q,U=>
     obtain⟨g',es,q',rfl,J,hG⟩:=hW.leave hr I ϳ;have hG:=hG g.frame.fn g.frame.place;refine .inl ⟨_,_,_,runT_crowd_go I (by rw[<-hm];exact J _),?_⟩;rw[h.woken o (w':=W.at d) hW.qN hW.chr];exact ih _ (.mk hr .quit) _ _ _ hG (by simpa using M)
end
end Px
namespace Px
open Go Go.Conc
section
variable {p:Pl} {gs gs':Array Goroutine} {W W' w':World} {t u:Trace} {rl:List bW}
theorem TI.give{Sw aI:Nat->Prop}{n n' N:Nat}{live:Nat->Prop}{J Own':Nat->Nat->Prop}{Ro:Nat->Prop}{g:Nat}(A:Ap Sw n J Ro)(h:TI Sw n live J Ro t N)(hg:live g)(hN:g<N)(hn:n<=n')(_:∀b,Sw b->aI b)(s2:∀b,aI b->Sw b\/(n<=b/\b<n'))
  (Z:∀k b,Own' k b->Dn J g n n' k b) (o2:∀k b,Own' k b->¬ aI b) (hu:∀op∈u,OkG aI g (Own' g) Ro op):Ap aI n' Own' Ro/\TI aI n' live Own' Ro (t++u) N:=by
 have A1:=A.grow g hn;have M:TI Sw n' live (Dn J g n n') Ro (t++u) N:=by
  refine TI.step A h hg hN hn λop ό=>⟨(hu op ό).1,λx hx=>?_⟩
  rcases (hu op ό).2 x hx with⟨⟨a,hl,U⟩,h1,I⟩|⟨b,hb,h1⟩
  ·rcases s2 _ U with H|H
   ·exact .inl ⟨⟨a,hl,H⟩,h1,I⟩
   ·exact .inr ⟨a,hl,.inl (.inr H)⟩
  ·refine .inr ⟨b,hb,h1.imp (λh1=>?_) id⟩;rcases Z _ _ h1 with I|⟨_,I⟩
   ·exact .inl I
   ·exact .inr I
 refine⟨⟨λk k' b h1 I=>A1.own _ _ _ (Z _ _ h1) (Z _ _ I),λk b h1=>A1.ro _ _ (Z _ _ h1),o2,λb h1 I=>?_,λk b h1=>A1.lt _ _ (Z _ _ h1),A1.vV,λb h1=>?_⟩,λi op x hi hx U=>?_,λk b hl ho=>M.own k b hl (Z _ _ ho),M.ro,M.fresh,M.nr,M.gs⟩
 ·rcases s2 b I with H|H
  ·exact A.qM b h1 H
  ·have:=A.vV b h1;omega
 ·rcases s2 b h1 with H|H
  ·exact lt_of_lt_of_le (A.pV b H) hn
  ·exact H.2
 ·obtain⟨a,hl,U⟩:=U;rcases s2 _ U with H|H
  ·exact M.quiet i op x hi hx ⟨a,hl,H⟩
  ·rcases getElem?_append_cases hi with⟨_,hi'⟩|⟨_,ŏ⟩
   ·have:=h.fresh i x a (by rw[touchAt_of hi'];exact hx) hl;omega
   ·rcases (hu op ŏ).2 x hx with⟨_,h1,I⟩|⟨b,hb,h1⟩
    ·exact⟨h1,λe=>(hu op ŏ).1.trans (I e)⟩
    ·rw[hl] at hb;cases hb;rcases h1 with h1|⟨h1,_⟩
     ·exact absurd U (o2 _ _ h1)
     ·have:=A.vV _ h1;omega
theorem jA.to{q:Pl}{j:Nat}{r:bW}{x:Goroutine}(M:q.P=p.P)(I:q.Ro=p.Ro)(J:q.J0=p.J0)(hR:q.AtR=p.AtR)(h:jA p j none r x W t):jA q j none r x W t:=by
 match r,h with
 | .run ..,⟨a,b,c,d,e,f,g⟩=>exact⟨J ▸ a,b,c.trans hR.symm,d,e,by rw[M,I];exact f,I ▸ g⟩
 | .idle ..,⟨a,b,c,d⟩=>exact⟨J ▸ a,M ▸ b,I ▸ c,λH hk=>by show q.AtR _ _ _;rw[hR];exact d H (I ▸ hk)⟩
 | .quit _,⟨a,b,c⟩=>exact⟨J ▸ a,M ▸ b,c⟩
theorem G2.turn(h:G2 p gs W t rl (λ_=>none) 0 []){m:Bool}{S:aR}{g g':Goroutine}{w:World}{O O' aI X:Nat->Prop}{jQ n':Nat}{M':Nat->List Nat->aR}(hr:rl[0]? = some (.run m S g w O))(size:W.heap.size<=w'.heap.size)(jU:w'.os=W.os/\w'.output=W.output)
  (old:∀b,b<W.heap.size->¬ O b->¬ X b->w'.heap[b]? = W.heap[b]?) (hX:∀b,X b->p.Sw b/\b≠p.cn/\b≠p.cr) (s1:∀b,p.Sw b->aI b) (s2:∀b,aI b->p.Sw b\/(W.heap.size<=b/\b<w'.heap.size)) (o1:∀b,O' b->grow O W w' b) (o2:∀b,O' b->¬ aI b)
  (hu:∀op∈u,OkG aI 0 O' p.Ro op) (Ņ:∀op∈u,Nt aI op) (hd:Deaf (t++u) 0=jQ) (hs:g'.status = .running) (hR:Runs p.P true p.Ro (M' 0 []) g' w' O') (one:0<n'->p.J0<gs.size) (_:1<=p.J0) :
  G2 { p with Sw:=aI,h0:=λb=>w'.heap[b]?,dm:=jQ,n:=n',fq:=M' } (gs.setIfInBounds 0 g') w' (t++u) (rl.set 0 (.run true (M' 0 []) g' w' O')) (λ_=>none) 0 []:=by
 have ύ:=(List.getElem?_eq_some_iff.1 hr).1;have iO:0<gs.size:=h.len ▸ ύ;have e:dP (rl.set 0 (.run true (M' 0 []) g' w' O'))=λk b=>(k=0/\O' b)\/(k≠0/\dP rl k b):=pX ύ
 obtain⟨A',T'⟩:=TI.give (u:=u) h.wi.ap h.wi.ti (g:=0) (.inl rfl) ύ size s1 s2 (Own':=dP (rl.set 0 (.run true (M' 0 []) g' w' O'))) (by
   rw[e];rintro k b (⟨rfl,H⟩|⟨_,H⟩)
   ·exact (o1 b H).imp (λh=>⟨_,hr,h⟩) λh=>⟨rfl,h⟩
   ·exact .inl H) (by
   rw[e];rintro k b (⟨rfl,H⟩|⟨_,H⟩) ϣ
   ·exact o2 b H ϣ
   ·rcases s2 b ϣ with h3|h3
    ·exact h.wi.ap.sw _ _ H h3
    ·have:=h.wi.ap.lt _ _ H;omega) (by
   rw[e];intro op ό;refine⟨(hu op ό).1,λx hx=>?_⟩;exact ((hu op ό).2 x hx).imp id λ⟨b,h1,h2⟩=>⟨b,h1,h2.imp (λh=>.inl ⟨rfl,h⟩) id⟩)
 have keep:∀(b:Nat),b<W.heap.size->p.Ro b\/(∃k,k≠0/\dP rl k b)\/b=p.cn/\p.Sw b\/b=p.cr/\p.Sw b->w'.heap[b]? = W.heap[b]?:=by
  intro b H hc;refine old b H ?_ ?_
  ·rcases hc with hc|⟨k,hk,hc⟩|⟨_,hc⟩|⟨_,hc⟩
   ·exact λJ=>h.wi.ap.ro 0 b ⟨_,hr,J⟩ hc
   ·exact λJ=>hk (h.wi.ap.own _ _ _ hc ⟨_,hr,J⟩)
   ·exact λJ=>h.wi.ap.sw 0 b ⟨_,hr,J⟩ hc
   ·exact λJ=>h.wi.ap.sw 0 b ⟨_,hr,J⟩ hc
  ·intro hx;obtain⟨h1,h2,h3⟩:=hX b hx;rcases hc with hc|⟨k,hk,hc⟩|⟨hc,_⟩|⟨hc,_⟩
   ·exact h.wi.ap.qM _ hc h1
   ·exact h.wi.ap.sw _ _ hc h1
   ·exact h2 hc
   ·exact h3 hc
 have Ę:∀op∈u,op.g=0:=λop ό=>(hu op ό).1
 constructor
 ·simp[h.len]
 ·refine⟨A',by rw[Array.size_setIfInBounds,length_set];exact T',λj M=>?_,qb (h.wi.pY.more s1) Ņ⟩;by_cases ϧ:j=0
  ·subst ϧ;exact hd
  ·rw[Deaf_other t (Ne.symm ϧ) u Ę];have:=h.wi.deaf j (by simpa [Pl.live] using M);rw[this];simp[Pl.D,ϧ]
 ·intro hJ;have:=h.sw (by simpa using hJ);exact⟨s1 _ this.1,s1 _ this.2⟩
 ·intro hJ;have I:p.J0<gs.size:=by simpa using hJ
  obtain⟨s,tm,hc⟩:=h.qN I;exact⟨s,tm,(keep _ (h.wi.ap.pV _ (h.sw I).1) (.inr (.inr (.inl ⟨rfl,(h.sw I).1⟩)))).trans hc⟩
 ·intro hJ;have I:p.J0<gs.size:=by simpa using hJ
  obtain⟨s,tm,hc⟩:=h.chr I;exact⟨s,tm,(keep _ (h.wi.ap.pV _ (h.sw I).2) (.inr (.inr (.inr ⟨rfl,(h.sw I).2⟩)))).trans hc⟩
 ·exact λ_ _ _ _=>rfl
 ·exact⟨_,_,List.getElem?_set_self ύ,get_set_same iO _,rfl,rfl,rfl,hs,hR,.refl ..⟩
 ·intro j r x M U e2;rw[List.getElem?_set_ne (Ne.symm M)] at U;rw[cZ (Ne.symm M)] at e2;have hf:=h.work j r x M U e2;refine jA.to (p:=p) rfl rfl rfl rfl (hf.mono ⟨size,λb H=>?_,jU⟩ λ_=>⟨Deaf_other t (Ne.symm M) u Ę,λJ=>J.app λop ό e=>absurd (e.symm.trans (Ę op ό)) M⟩);rcases H with H|H
  ·exact keep b (h.wi.ap.vV _ H) (.inl H)
  ·exact keep b (h.wi.ap.lt _ _ ⟨_,U,H⟩) (.inr (.inl ⟨j,M,_,U,H⟩))
 ·intro j i Z;cases Z
 ·intro j j' i Z;cases Z
 ·intro i Z;omega
 ·intro i Z;cases Z
 ·exact nodup_nil
 ·exact zero_le _
 ·intro hn;rw[Array.size_setIfInBounds];exact one hn
 ·intro g1 w1 O1 U;rw[List.getElem?_set_self ύ] at U;cases U
end
end Px
namespace Px
open Go Go.Conc
section
variable {p:Pl} {gs gs':Array Goroutine} {W W' w':World} {t u:Trace} {rl:List bW}
def bear(N:Nat)(fn fc:FuncId)(pos:String):Trace:=#[⟨0,fn,pos,.go N⟩,⟨N,fc,pos,.start⟩]
theorem vY{N:Nat}{fn H:FuncId}{pos:String}:∀op∈bear N fn H pos,op.act.touch? = none/\(op.g=0\/op.g=N)/\op.act ≠ .mark .disable/\op.act ≠ .mark .enable:=by
 intro op e;simp only[bear,mem_toArray,mem_cons,not_mem_nil,or_false] at e;rcases e with rfl|rfl
 ·exact⟨rfl,.inl rfl,(λh=>by cases h),(λh=>by cases h)⟩
 ·exact⟨rfl,.inr rfl,(λh=>by cases h),(λh=>by cases h)⟩
theorem G2.born(h:G2 p gs W t rl (λ_=>none) 0 []){m:Bool}{S:aR}{g g' c:Goroutine}{w:World}{O:Nat->Prop}{n':Nat}{M':Nat->List Nat->aR}(fn fc:FuncId)(pos:String)(hr:rl[0]? = some (.run m S g w O))(hm:p.dm=0)
  (hs:g'.status = .running) (hR:Runs p.P true p.Ro (M' 0 []) g' W O) (hc:c.status = .running) (hC:Runs p.P false p.Ro p.AtR c W λ_=>False) (hJ:p.J0<=gs.size) (_:1<=p.J0) (ϣ:p.Sw p.cn/\p.Sw p.cr) (Ū:∃s,kW W p.cn s) (ė:∃s,kW W p.cr s) :
  G2 { p with n:=n',fq:=M' } ((gs.setIfInBounds 0 g').push c) W (t++bear gs.size fn fc pos) (rl.set 0 (.run true (M' 0 []) g' W O) ++ [.run false p.AtR c W λ_=>False]) (λ_=>none) 0 []:=by
 have ύ:=(List.getElem?_eq_some_iff.1 hr).1;have iO:0<gs.size:=h.len ▸ ύ;have M:rl.length=gs.size:=h.len;have d0:Deaf t 0=0:=by
  have:=h.wi.deaf 0 (.inl rfl);rw[this];simp[Pl.D,hm]
 have dN:Deaf t gs.size=0:=ConcN.Deaf_absent λi op U e=>by
  have:=h.wi.ti.gs i op U;omega
 have dk:∀k,Deaf (t++bear gs.size fn fc pos) k=Deaf t k:=λk=>ConcN.Deaf_still t k _ λop H=>(vY op H).2.2
 have lk:∀(k:Nat),k<gs.size->(rl.set 0 (.run true (M' 0 []) g' W O) ++ [.run false p.AtR c W λ_=>False])[k]? = (rl.set 0 (.run true (M' 0 []) g' W O))[k]?:=λk hk=>List.getElem?_append_left (by simpa [M] using hk)
 have lN:(rl.set 0 (.run true (M' 0 []) g' W O) ++ [.run false p.AtR c W λ_=>False])[gs.size]? = some (.run false p.AtR c W λ_=>False):=by
  rw[List.getElem?_append_right (by simp[M])];simp[M]
 have lo:∀(k:Nat) r,(rl.set 0 (.run true (M' 0 []) g' W O) ++ [.run false p.AtR c W λ_=>False])[k]? = some r->k<gs.size\/k=gs.size:=by
  intro k r hk;have:=(List.getElem?_eq_some_iff.1 hk).1;simp[M] at this;omega
 have e:dP (rl.set 0 (.run true (M' 0 []) g' W O) ++ [.run false p.AtR c W λ_=>False])=dP rl:=by
  have e0:dP (rl.set 0 (.run true (M' 0 []) g' W O))=dP rl:=qo hr rfl;rw[<-e0];funext k b;apply propext;constructor
  ·rintro⟨r,h1,h2⟩;rcases lo k r h1 with hk|rfl
   ·exact⟨r,(lk k hk).symm.trans h1,h2⟩
   ·rw[lN] at h1;cases h1;exact h2.elim
  ·rintro⟨r,h1,h2⟩;have hk:=(List.getElem?_eq_some_iff.1 h1).1;simp[M] at hk;exact⟨r,(lk k hk).trans h1,h2⟩
 have gk:∀(k:Nat),k<gs.size->((gs.setIfInBounds 0 g').push c)[k]? = (gs.setIfInBounds 0 g')[k]?:=λk hk=>by
  rw[Array.getElem?_push,if_neg (by simp;omega)]
 have gN:((gs.setIfInBounds 0 g').push c)[gs.size]? = some c:=by
  rw[Array.getElem?_push,if_pos eO]
 have sz:((gs.setIfInBounds 0 g').push c).size=gs.size+1:=eO;constructor
 ·simp[M]
 ·refine⟨by rw[e];exact h.wi.ap,?_,λj I=>?_,qb h.wi.pY λop H=>.none (λa=>?_) (vY op H).1⟩
  ·rw[e,show (rl.set 0 (.run true (M' 0 []) g' W O) ++ [bW.run false p.AtR c W λ_=>False]).length=gs.size+1 by simp[M],sz];refine TI.still (N:=gs.size) (by rw[<-M];exact h.wi.ti) bB (λop H=>⟨(vY op H).1,by rcases (vY op H).2.1 with h|h<;>omega⟩) (λk b hl ho=>⟨k,?_,ho,λi hk=>hk.app _⟩) λk hl=>?_
   ·obtain⟨r,h1,_⟩:=ho;have:=(List.getElem?_eq_some_iff.1 h1).1;rcases hl with hl|⟨hl,_⟩
    ·exact .inl hl
    ·exact .inr ⟨hl,bB⟩
   ·rcases hl with rfl|⟨hl,hk⟩
    ·exact⟨0,.inl rfl,λi hk=>hk.app _⟩
    ·by_cases hkN:k=gs.size
     ·subst hkN;exact⟨0,.inl rfl,λi hk=>ConcN.fork_knows ⟨rfl,rfl⟩ ⟨rfl,rfl⟩ d0 dN hk⟩
     ·exact⟨k,.inr ⟨hl,bB⟩,λi hk=>hk.app _⟩
  ·rw[dk];by_cases ϧ:j=0
   ·subst ϧ;rw[d0];simp[Pl.D,hm]
   ·by_cases kH:j=gs.size
    ·subst kH;rw[dN];simp[Pl.D,ϧ]
    ·have:=h.wi.deaf j (by
      rcases I with I|⟨I,hk⟩
      ·exact .inl I
      ·rw[sz] at hk;exact .inr ⟨I,bB⟩)
     rw[this];simp[Pl.D,ϧ]
  ·simp only[bear,mem_toArray,mem_cons,not_mem_nil,or_false] at H;rcases H with rfl|rfl<;>exact λh=>by cases h
 ·exact λ_=>ϣ
 ·exact λ_=>Ū
 ·exact λ_=>ė
 ·exact h.fx
 ·exact⟨_,_,(lk 0 iO).trans (List.getElem?_set_self ύ),(gk 0 iO).trans (get_set_same iO _),rfl,rfl,rfl,hs,hR,.refl ..⟩
 ·intro j r x I J Z;rcases lo j r J with hk|rfl
  ·rw[lk j hk,List.getElem?_set_ne (Ne.symm I)] at J;rw[gk j hk,cZ (Ne.symm I)] at Z;refine jA.to (p:=p) rfl rfl rfl rfl ((h.work j r x I J Z).mono (.refl ..) λŵ=>⟨dk j,λho=>ho.app λop H _=>(vY op H).1⟩)
  ·rw[lN] at J;cases J;rw[gN] at Z;cases Z;exact⟨hJ,rfl,rfl,rfl,hc,hC,.refl ..⟩
 ·intro j i U;cases U
 ·intro j j' i U;cases U
 ·intro i U;omega
 ·intro i U;cases U
 ·exact nodup_nil
 ·exact zero_le _
 ·intro _;rw[sz];show p.J0<_;omega
 ·intro g1 w1 O1 J;rw[lk 0 iO,List.getElem?_set_self ύ] at J;cases J
theorem G2.anew(h:G2 p gs W t rl (λ_=>none) 0 []){H:Goroutine}{O':Nat->Prop}(hg:gs[0]? = some H)(hJ:p.J0=gs.size)(q:Pl)(hP:q.P=p.P)(hS:q.Sw=p.Sw)(U:q.J0=gs.size)(hd:q.dm=p.dm)(hn:q.n=0)
  (h0:q.h0=λb=>W.heap[b]?) (r2:∀b,q.Ro b->b<W.heap.size/\¬ p.Sw b) (o1:∀b,O' b->b<W.heap.size/\¬ p.Sw b/\¬ q.Ro b) (hs:H.status = .running) (hR:Runs q.P true q.Ro (q.fq 0 []) H W O') :
  G2 q gs W t (rl.set 0 (.run true (q.fq 0 []) H W O')) (λ_=>none) 0 []:=by
 have iO:=(Array.getElem?_eq_some_iff.1 hg).1;have ύ:0<rl.length:=h.len ▸ iO;have e:dP (rl.set 0 (.run true (q.fq 0 []) H W O'))=λk b=>(k=0/\O' b)\/(k≠0/\dP rl k b):=pX ύ
 have M:∀k r,k≠0->rl[k]? = some r->(∃n,r = .quit n)/\HO t k:=by
  intro k r Ϭ h1;have hl:=(List.getElem?_eq_some_iff.1 h1).1;rw[h.len] at hl;have hf:=h.work k r gs[k] Ϭ h1 (by simp[hl]);match r,hf with
  | .run ..,⟨a,_⟩=>omega
  | .idle ..,⟨a,_⟩=>omega
  | .quit n,⟨_,_,c⟩=>exact⟨⟨n,rfl⟩,c⟩
 have I:∀k b,dP (rl.set 0 (.run true (q.fq 0 []) H W O')) k b->k=0/\O' b:=by
  intro k b hk;rw[e] at hk;rcases hk with⟨rfl,J⟩|⟨hk,r,h1,h2⟩
  ·exact⟨rfl,J⟩
  ·obtain⟨⟨n,rfl⟩,_⟩:=M k r hk h1;exact h2.elim
 have lv:∀k,q.live gs.size k->k=0:=by
  rintro k (hk|⟨h1,h2⟩)
  ·exact hk
  ·omega
 have all:∀b,¬ p.Sw b->∀l,blk l=some b->∀i a,touchAt t i=some a->a.loc=l->Knows t 0 i:=by
  intro b J l hl i a ha hal;obtain⟨op,Z,hx⟩:=touch_of ha;by_cases ô:op.g=0
  ·have:=knows_own Z;rwa [ô] at this
  ·have Ú:=h.wi.ti.gs i op Z;obtain⟨r,hr⟩:∃r,rl[op.g]? = some r:=⟨rl[op.g],by simp[Ú]⟩;refine (M _ r ô hr).2 i (by rw[Trace.g?,Z];rfl) ⟨a,by rw[act?_of Z];exact hx,?_,.inl ?_⟩
   ·rw[hal];cases l<;>first|rfl|cases hl
   ·rcases h.wi.pY.2 i a ha with⟨b',h1,h2⟩|h1
    ·rw[hal,hl] at h1;cases h1;exact absurd h2 J
    ·rw[h1];exact λh=>by cases h
 constructor
 ·simp[h.len]
 ·refine⟨⟨?_,?_,?_,?_,?_,?_,?_⟩,⟨?_,?_,?_,?_,?_,?_⟩,?_,by rw[hS];exact h.wi.pY⟩
  ·intro k k' b h1 h2;rw[(I k b h1).1,(I k' b h2).1]
  ·intro k b h1;exact (o1 b (I k b h1).2).2.2
  ·intro k b h1;rw[hS];exact (o1 b (I k b h1).2).2.1
  ·intro b J;rw[hS];exact (r2 b J).2
  ·intro k b h1;exact (o1 b (I k b h1).2).1
  ·intro b J;exact (r2 b J).1
  ·rw[hS];exact h.wi.ap.pV
  ·rw[hS];exact h.wi.ti.quiet
  ·intro k b hl Z l J;rw[(I k b Z).1];exact all b (o1 b (I k b Z).2).2.1 l J
  ·intro k b hl J l Û;rw[lv k hl];exact λi a ha e _=>all b (r2 b J).2 l Û i a ha e
  ·exact h.wi.ti.fresh
  ·exact h.wi.ti.nr
  ·rw[length_set];exact h.wi.ti.gs
  ·intro k hk;rw[lv k hk,h.wi.deaf 0 (.inl rfl)];simp[Pl.D,hd]
 ·intro hh;rw[U] at hh;exact absurd hh (Nat.lt_irrefl _)
 ·intro hh;rw[U] at hh;exact absurd hh (Nat.lt_irrefl _)
 ·intro hh;rw[U] at hh;exact absurd hh (Nat.lt_irrefl _)
 ·intro b _ _ _;rw[h0]
 ·exact⟨_,_,List.getElem?_set_self ύ,hg,rfl,rfl,rfl,hs,hR,.refl ..⟩
 ·intro j r x hj e1 e2;rw[List.getElem?_set_ne (Ne.symm hj)] at e1;have hl:=(List.getElem?_eq_some_iff.1 e1).1;rw[h.len] at hl;have hf:=h.work j r x hj e1 e2;match r,hf with
  | .run ..,⟨a,_⟩=>omega
  | .idle ..,⟨a,_⟩=>omega
  | .quit _,⟨_,b,c⟩=>exact⟨bB,by rw[hP];exact b,c⟩
 ·intro j i hi;cases hi
 ·intro j j' i hi;cases hi
 ·intro i hi;omega
 ·intro i hi;cases hi
 ·exact nodup_nil
 ·exact zero_le _
 ·intro hh;omega
 ·intro g1 w1 O1 e1;rw[List.getElem?_set_self ύ] at e1;cases e1
end
end Px
namespace Px
open Go Go.Conc
def Shut(w:World)(r s:Nat):Prop:=∃tm,w.heap[r]? = some (.chan 0 #[] true s s tm)
theorem Oh{P:Program}{gs:Array Goroutine}{i r s:Nat}{g:Goroutine}{c:CommCase}{shape:CommShape}{w:World}{sl:Option (Nat×Nat)}(U:c.send=none)(hr:c.chan = .chan (some r))(hc:Shut w r s)(M:partners gs r true = []):
  ∃d,communicate P { timers:=#[],alone:=none,slice:=sl } gs i g #[c] true shape w=(.next (crowd (gs.setIfInBounds i (g.finishComm P #[c] shape (0:Nat) c.zero false)) (w.at d) sl),#[⟨i,g.frame.fn,g.frame.place,.recvClosed r⟩]):=by
 obtain⟨tm,hc⟩:=hc;have Z:ways w gs c = [.closed]:=by
  unfold ways;simp only[hr,hc,U,M];simp
 obtain⟨a,e,ha,I⟩:=choose_lt (P:=P) (q:=.select 1) (w:=w) Nat.one_pos λ_ t=>Gc Nat.one_pos t
 obtain⟨b,H,hb,J⟩:=choose_lt (P:=P) (q:=.extern "which waiting goroutine is the partner" 1) (w:=w.at e) Nat.one_pos λ_ t=>OZ Nat.one_pos t
 have ε:a=0:=bB;have ϵ:b=0:=bB;subst ε ϵ;refine⟨H,?_⟩;unfold communicate;dsimp only
 rw[if_neg (by simp[hr,hc])];have hz:(#[c].zipIdx.toList.map λ(c,k)=>(k,c,ways w gs c)).filter (λ(_,_,ws)=>!ws.isEmpty) = [(0,c,[.closed])]:=by
  simp[Z]
 rw[hz];have Ŵ:Sem.run P (do
       let a <-choose (Question.select [(0,c,[Way.closed])].length)
       let b <-choose (Question.extern "which waiting goroutine is the partner" ([(0,c,[Way.closed])].getD a (0,default,[])).2.snd.length)
       pure (([(0,c,[Way.closed])].getD a (0,default,[])).fst,([(0,c,[Way.closed])].getD a (0,default,[])).2.fst,([(0,c,[Way.closed])].getD a (0,default,[])).2.snd.getD b Way.closed)) w = .ok (0,c,.closed) (w.at H):=by
  rw[Sem.run_bind];show (Result.andThen (Sem.run P (choose (Question.select 1)) w) _)=_;rw[I];simp only[Result.andThen_ok];rw[Sem.run_bind];show (Result.andThen (Sem.run P (choose (Question.extern "which waiting goroutine is the partner" 1)) (w.at e)) _)=_;rw[J];rfl
 simp only[isEmpty_cons,Bool.false_eq_true,if_false,Ŵ,hr];rfl
theorem QY{w:World}{h:Goroutine}{c:CommCase}{sh:CommShape}{r s:Nat}(H:h.status = .blocked)(e:h.offers=some (#[c],sh))(hr:c.chan = .chan (some r))(hc:Shut w r s):h.again w = { h with status:=.running }:=by
 obtain⟨Z,hc⟩:=hc;obtain⟨M,I,U,J,off⟩:=h;dsimp only at e H;subst e H;unfold Goroutine.again;dsimp only
 rw[if_pos (by simp[hr,hc])]
end Px
namespace Px
open Go Go.Conc
def Cl(Ro O:Nat->Prop)(F:World->Prop):Prop:=∀w w₁,Keep Ro O w w₁->F w->F w₁
def RF(P:Program)(m:Bool)(Ro:Nat->Prop)(S:aR)(F:World->Prop)(g:Goroutine)(O:Nat->Prop):Prop:=∀w,F w->Runs P m Ro S g w O
section
variable {P:Program} {m:Bool} {Ro O:Nat->Prop} {S:aR} {F:World->Prop} {b:Frame} {a:Act} {k:List Item} {cs:List Frame}
theorem nX{O:Nat->Prop}{w:World}:grow O w w=O:=by
 funext b;apply propext;exact⟨λh=>h.elim id λh=>bB,.inl⟩
theorem nT.rest{w:World}{es:Array Event}(h:∀e,e∈es->ng Ro O e):nT Ro O w w es:=⟨le_refl _,λ_ _ _=>rfl,rfl,rfl,rfl,by rw[nX];exact h⟩
theorem RF.go(hc:Cl Ro O F){g g':Goroutine}{es:World->Array Event}(h:∀w,F w->stepG P m g w = .go g' w (es w))(he:∀w,F w->∀e,e∈es w->ng Ro O e)(hr:g'.status = .running)(hn:RF P m Ro S F g' O):RF P m Ro S F g O:=λw hF=>
 .step (λH hk=>⟨g',H,_,h H (hc w H hk hF),hr,.rest (he H (hc w H hk hF))⟩) λH I J es hk e=>by
  rw[h H (hc w H hk hF)] at e;cases e;rw[nX];exact hn H (hc w H hk hF)
theorem RF.idle(hc:Cl Ro O F){g g':Goroutine}(h:∀w,stepG P m g w = .go g' w)(hr:g'.status = .running)(hn:RF P m Ro S F g' O):RF P m Ro S F g O:=
 .go hc (es:=λ_=>#[]) (λw _=>h w) (λ_ _ e he=>by simp at he) hr hn
theorem RF.stop(hc:Cl Ro O F){g:Goroutine}(h:∀w,F w->S g w O):RF P m Ro S F g O:=λw hF=>.stop λe hk=>h e (hc w e hk hF)
theorem Runs.bind{S':aR}{g:Goroutine}{w:World}(h:Runs P m Ro S g w O)(hn:∀g w O,(∀e,Keep Ro O w e->S g e O)->Runs P m Ro S' g w O):Runs P m Ro S' g w O:=by
 induction h with
 | stop h=>exact hn _ _ _ h
 | step h1 h2 ih=>exact .step h1 ih
theorem RF.seq(hc:Cl Ro O F){x y:Code}(hn:RF P m Ro S F (G (b.at a (.code x :: .code y::k)) cs) O):RF P m Ro S F (G (b.at a (.code (.seq x y)::k)) cs) O:=.idle hc (λ_=>stepG_seq) rfl hn
theorem RF.cond(hc:Cl Ro O F){c:Operand}{x y:Code}{t:Bool}(e:a.eval c = .bool t)(hn:RF P m Ro S F (G (b.at a (.code (if t=true then x else y)::k)) cs) O):RF P m Ro S F (G (b.at a (.code (.cond c x y)::k)) cs) O:=.idle hc (λ_=>stepG_cond e) rfl hn
theorem RF.skip(hc:Cl Ro O F)(hn:RF P m Ro S F (G (b.at a k) cs) O):RF P m Ro S F (G (b.at a (.code .skip::k)) cs) O:=.idle hc (λ_=>stepG_skip) rfl hn
theorem RF.block(hc:Cl Ro O F){id:Nat}{c:Code}(hn:RF P m Ro S F (G (b.at a (.code c :: .inBlock id::k)) cs) O):RF P m Ro S F (G (b.at a (.code (.block id c)::k)) cs) O:=.idle hc (λ_=>stepG_block) rfl hn
theorem RF.inBlock(hc:Cl Ro O F){id:Nat}(hn:RF P m Ro S F (G (b.at a k) cs) O):RF P m Ro S F (G (b.at a (.inBlock id::k)) cs) O:=.idle hc (λ_=>stepG_inBlock) rfl hn
theorem RF.loop(hc:Cl Ro O F){c:Code}(hn:RF P m Ro S F (G (b.at a (.code c :: .inLoop c::k)) cs) O):RF P m Ro S F (G (b.at a (.code (.loop c)::k)) cs) O:=.idle hc (λ_=>stepG_loop) rfl hn
theorem RF.inLoop(hc:Cl Ro O F){c:Code}(hn:RF P m Ro S F (G (b.at a (.code c :: .inLoop c::k)) cs) O):RF P m Ro S F (G (b.at a (.inLoop c::k)) cs) O:=.idle hc (λ_=>stepG_inLoop) rfl hn
theorem RF.region(hc:Cl Ro O F){id:Nat}{ops:Array Oper}(hn:RF P m Ro S F (G (b.at a (.inRegion ops (List.range ops.size)::k)) cs) O):RF P m Ro S F (G (b.at a (.code (.region id ops false)::k)) cs) O:=.idle hc (λ_=>stepG_region) rfl hn
theorem RF.qO(hc:Cl Ro O F){ops:Array Oper}(hn:RF P m Ro S F (G (b.at a k) cs) O):RF P m Ro S F (G (b.at a (.inRegion ops []::k)) cs) O:=.idle hc (λ_=>stepG_region_end) rfl hn
theorem RF.value(hc:Cl Ro O F){ops:Array Oper}{i:Nat}{rest:List Nat}{o:Oper}{v:Value}(I:ops[i]? = some o)(J:Region.wanted o (yielded ops a.tmps)=true)(H:b.kind ≠ .early)(h:∀w,F w->Sem.run P (execOp a.eval o) w = .ok (.value v) w)
  (he:∀w,F w->∀e,e∈listed P b.fn a o w->ng Ro O e) (hn:RF P m Ro S F (G (b.at (a.put o.dst v) (.inRegion ops rest::k)) cs) O):RF P m Ro S F (G (b.at a (.inRegion ops (i::rest)::k)) cs) O:=
 .go hc (λw hF=>stepG_value I J H (h w hF)) he rfl hn
theorem RF.enter(hc:Cl Ro O F){ops:Array Oper}{i:Nat}{rest:List Nat}{o:Oper}{f:FuncId}{args:Array Value}(I:ops[i]? = some o:=by simp only[List.getElem?_toArray,List.getElem?_cons_zero,List.getElem?_cons_succ] ;rfl)(J:Region.wanted o (yielded ops a.tmps)=true:=by rfl)(H:b.kind ≠ .early:=by decide)(h:∀w,F w->Sem.run P (execOp a.eval o) w = .ok (.enter f args) w)
  (he:∀w,F w->∀e,e∈listed P b.fn a o w->ng Ro O e) (hn:RF P m Ro S F (G (Frame.enter P f args .normal) (b.at a (.inRegion ops (i::rest)::k)::cs)) O):RF P m Ro S F (G (b.at a (.inRegion ops (i::rest)::k)) cs) O:=
 .go hc (λw hF=>stepG_enter I J H (h w hF)) he rfl hn
end
theorem enter_at{P:Program}{f:FuncId}{fn:Func}{c:Code}{l:List Value}{n:Nat}(H:P.funcs[f]? = some fn)(e:fn.body=some c)(hn:fn.ntmps-l.length=n):Frame.enter P f l.toArray .normal=(base f).at { tmps:=(l++List.replicate n undef).toArray,defers:=[] } [.code c]:=by
 subst hn;unfold Frame.enter;rw[H];simp only[Option.map_some,Option.getD_some,Option.bind_some,e];rw[show l.toArray++Array.replicate (fn.ntmps-l.toArray.size) undef=(l++List.replicate (fn.ntmps-l.length) undef).toArray from by
  apply Array.toList_inj.1;rw[Array.toList_append,Array.toList_replicate];simp]
 rfl
theorem RF.pure{P:Program}{m:Bool}{Ro O:Nat->Prop}{S:aR}{F:World->Prop}{b:Frame}{a H:Act}{k:List Item}{cs:List Frame}(hc:Cl Ro O F){ops:Array Oper}{i:Nat}{rest:List Nat}{o:Oper}{v:Value}(U:ops[i]? = some o:=by simp only[List.getElem?_toArray,List.getElem?_cons_zero,List.getElem?_cons_succ] ;rfl)(hw:Region.wanted o (yielded ops a.tmps)=true:=by rfl)(J:b.kind ≠ .early:=by decide)(h:∀w,Sem.run P (execOp a.eval o) w = .ok (.value v) w:=by intro w;first|rfl|(simp only[Go.execOp];simp[go_sem];try rfl))
  (he:∀w,listed P b.fn a o w=#[]:=by intro w;rfl) {d:Option Tmp} (M:o.dst=d:=by rfl) (Z:a.put d v=H:=by simp only[Go.Act.put,Go.Act.eval,Array.getD_eq_getD_getElem?,List.getElem?_toArray,List.getElem?_cons_zero,List.getElem?_cons_succ,Option.getD_some,List.setIfInBounds_toArray,List.set_cons_zero,List.set_cons_succ,List.getElem_toArray,List.getElem_cons_zero,List.getElem_cons_succ] ;rfl) (hn:RF P m Ro S F (G (b.at H (.inRegion ops rest::k)) cs) O):RF P m Ro S F (G (b.at a (.inRegion ops (i::rest)::k)) cs) O:=
 RF.value hc U hw J (λw _=>h w) (λw _ e I=>by rw[he w] at I;simp at I) (by rw[M,Z];exact hn)
theorem RF.reads{P:Program}{m:Bool}{Ro O:Nat->Prop}{S:aR}{F:World->Prop}{b:Frame}{a H:Act}{k:List Item}{cs:List Frame}(hc:Cl Ro O F){ops:Array Oper}{i:Nat}{rest:List Nat}{o:Oper}{v:Value}(U:ops[i]? = some o:=by simp only[List.getElem?_toArray,List.getElem?_cons_zero,List.getElem?_cons_succ] ;rfl)(hw:Region.wanted o (yielded ops a.tmps)=true:=by rfl)(I:b.kind ≠ .early:=by decide)(h:∀w,F w->Sem.run P (execOp a.eval o) w = .ok (.value v) w)
  (he:∀w,F w->∀e,e∈Sem.events P (execOp a.eval o) w #[]->ng Ro O e) {d:Option Tmp} (J:o.dst=d:=by rfl) (Z:a.put d v=H:=by simp only[Go.Act.put,Go.Act.eval,Array.getD_eq_getD_getElem?,List.getElem?_toArray,List.getElem?_cons_zero,List.getElem?_cons_succ,Option.getD_some,List.setIfInBounds_toArray,List.set_cons_zero,List.set_cons_succ,List.getElem_toArray,List.getElem_cons_zero,List.getElem_cons_succ] ;rfl) (hn:RF P m Ro S F (G (b.at H (.inRegion ops rest::k)) cs) O):RF P m Ro S F (G (b.at a (.inRegion ops (i::rest)::k)) cs) O:=
 RF.value hc U hw I h (λw hF e M=>he w hF e (mem_listed M)) (by rw[J,Z];exact hn)
theorem Ed{P:Program}{f:FuncId}(args:Array Value){fn:Func}(h:P.funcs[f]? = some fn)(hn:(fn.name == "runtime.NumGoroutine")=false)(e:fn.body.isNone=false)(w:World)(es:Array Event):Sem.events P (callFunc f args) w es=es:=by
 unfold callFunc;rw[Sem.events_bind,events_program];simp only[show Sem.run P program w = .ok P w from rfl,Result.evThen,h,hn,e,Bool.false_eq_true,if_false];exact Sem.events_pure' ..
end Px
namespace Px
open Go Go.Conc
def Mine(Sw:Nat->Prop)(W:World):Nat->Prop:=λb=>b<W.heap.size/\¬ Sw b
def EZ:Nat->Prop:=λ_=>False
structure Al(P:Program)(Sw:Nat->Prop)(dm:Nat)(gs:Array Goroutine)(W:World)(t:Trace)(g:Goroutine):Prop where
 g2:∃p rl,G2 p gs W t rl (λ_=>none) 0 []/\p.P=P/\p.Sw=Sw/\p.dm=dm/\p.J0=gs.size
 main:gs[0]? = some g
 run:g.status = .running
def LG(P:Program)(Sw:Nat->Prop)(dm J0:Nat)(W:World)(S:aR):Pl where
 P:=P
 Sw:=Sw
 Ro:=EZ
 h0:=λb=>W.heap[b]?
 J0:=J0
 dm:=dm
 cn:=W.heap.size
 cr:=W.heap.size+1
 n:=0
 AtR:=λ_ _ _=>False
 kX:=λ_ _ _ _=>False
 fq:=λ_ _=>S
 BN:=λ_ _ _ _=>False
 eR:=undef
 eS:=undef
 e0:=undef
 e1:=undef
theorem Ud{P:Program}{Sw:Nat->Prop}{dm J0:Nat}{W:World}{S:aR}(h:1<=J0):(LG P Sw dm J0 W S).Ok where
 ne:=λh=>by have:W.heap.size=W.heap.size+1:=h;omega
 j0:=h
 dm:=λh=>absurd h (Nat.lt_irrefl _)
 hR:=λ_ _ _ h=>h.elim
 hS:=λ_ _ _ _ h=>h.elim
 hM:=λ_ _ _ _ _ _ h=>absurd h (not_lt_zero _)
section
variable {P:Program} {Sw aI:Nat->Prop} {dm jQ:Nat} {gs:Array Goroutine} {W W':World} {t:Trace} {g g':Goroutine} {Q:Machine->Outcome->World->Trace->Prop} {S:aR}
theorem Al.own(A:Al P Sw dm gs W t g){Ro O:Nat->Prop}(q:Pl)(J:q.P=P)(hS:q.Sw=Sw)(hJ:q.J0=gs.size)(hd:q.dm=dm)(hn:q.n=0)(h0:q.h0=λb=>W.heap[b]?)(H:q.Ro=Ro)(r2:∀b,Ro b->b<W.heap.size/\¬ Sw b)(o1:∀b,O b->b<W.heap.size/\¬ Sw b/\¬ Ro b)
  (hR:Runs P true Ro (q.fq 0 []) g W O):∃rl,rl[0]? = some (.run true (q.fq 0 []) g W O)/\G2 q gs W t rl (λ_=>none) 0 []:=by
 obtain⟨⟨p,rl,h,U,e,Z,e4⟩,M,hr⟩:=A;have iO:=(Array.getElem?_eq_some_iff.1 M).1;have ύ:0<rl.length:=h.len ▸ iO;refine⟨_,List.getElem?_set_self ύ,h.anew M e4 q (J.trans U.symm) (hS.trans e.symm) hJ (hd.trans Z.symm) hn h0 (λb I=>?_) (λb I=>?_) hr (by rw[J,H];exact hR)⟩
 ·rw[e];exact r2 b (H ▸ I)
 ·rw[e,H];exact o1 b I
theorem Al.at(A:Al P Sw dm gs W t g)(d:Nat):Al P Sw dm gs (W.at d) t g:=by
 obtain⟨⟨p,rl,h,e⟩,H,hr⟩:=A;exact⟨⟨p,rl,h.at d,e⟩,H,hr⟩
def Yu(Sw:Nat->Prop)(W:World)(e:Event):Prop:=(∀x,(MemAct.ofEvent e).touch? = some x->(tN Sw x.loc/\x.kind ≠ .plain)\/∃b,blk x.loc=some b/\x.kind = .plain/\b<W.heap.size/\¬ Sw b)/\∀a,MemAct.ofEvent e ≠ .mark (.release a)
theorem Al.step(A:Al P Sw dm gs W t g){d:Nat}{sl:Option (Nat×Nat)}{es:Array Event}(e1:stepG P true g (W.at d) = .go g' W' es)(size:W.heap.size<=W'.heap.size)(jU:W'.os=W.os/\W'.output=W.output)(s1:∀b,Sw b->aI b)(s2:∀b,aI b->Sw b\/(W.heap.size<=b/\b<W'.heap.size))(Z:∀e,e∈es->Yu aI W' e)(hd:deafBehind dm es=jQ)(hr:g'.status = .running)
  (nx:∀gs' t',Al P aI jQ gs' W' t' g'->gs'.size=gs.size->gK P Q gs' W' t'):iQ P Q gs W t 0 d sl:=by
 have iO:=(Array.getElem?_eq_some_iff.1 A.main).1;have A':=A.at d;obtain⟨rl,į,h⟩:=A'.own (Ro:=EZ) (O:=Mine Sw W) (LG P Sw dm gs.size W λg' _ _=>g'=g) rfl rfl rfl rfl rfl rfl rfl (λ_ h=>h.elim) (λb h=>⟨h.1,h.2,id⟩) (.stop λ_ _=>rfl);have hw:gs.map (Conc.woken P g g' W')=gs:=G2.woken (Ud bB) h (λh=>absurd h (Nat.lt_irrefl _)) (λh=>absurd h (Nat.lt_irrefl _)) g g';have ops:∀op∈MemOp.ofEvents 0 g.frame.fn g.frame.place es,∃e∈es,op=⟨0,g.frame.fn,g.frame.place,MemAct.ofEvent e⟩:=by
  intro op I;unfold MemOp.ofEvents at I;split at I
  ·simp at I
  ·obtain⟨e,he,rfl⟩:=Array.mem_map.1 I;exact⟨e,he,rfl⟩
 have J:∀b,Sw b->b<W.heap.size:=λb H=>h.wi.ap.pV b H
 have T:=h.turn (m:=true) (g':=g') (w':=W') (O':=Mine aI W') (aI:=aI) (X:=Sw) (jQ:=jQ) (n':=0) (u:=MemOp.ofEvents 0 g.frame.fn g.frame.place es) (M':=λ_ _ x _ _=>x=g') į size jU (λb H h1 M=>absurd ⟨H,M⟩ h1) (λb H=>⟨H,λe=>by have:=J b H;have:b=W.heap.size:=e;omega,λe=>by have:=J b H;have:b=W.heap.size+1:=e;omega⟩) s1 s2
  (λb H=>by
   by_cases ύ:b<W.heap.size
   ·exact .inl ⟨ύ,λh=>H.2 (s1 b h)⟩
   ·exact .inr ⟨Nat.le_of_not_lt ύ,H.1⟩) (λb H=>H.2) (λop I=>by
   obtain⟨e,he,rfl⟩:=ops op I;refine⟨rfl,λx U=>?_⟩;rcases (Z e he).1 x U with⟨h1,M⟩|⟨b,h1,_,M⟩
   ·exact .inl ⟨h1,M,λ_=>rfl⟩
   ·exact .inr ⟨b,h1,.inl M⟩) (λop I=>by
   obtain⟨e,he,rfl⟩:=ops op I;exact⟨(Z e he).2,λx U=>((Z e he).1 x U).imp (·.1) λ⟨_,_,h,_⟩=>h⟩) (by rw[Deaf_own,h.wi.deaf 0 (.inl rfl)];exact hd) hr (.stop λ_ _=>rfl) (λh=>absurd h (Nat.lt_irrefl _)) (by show 1<=gs.size;omega)
 refine .inl ⟨_,_,_,runT_crowd_go A.main (by exact e1),?_⟩;rw[hw];exact nx _ _ ⟨⟨_,_,T,rfl,rfl,rfl,by simp[LG]⟩,get_set_same iO _,hr⟩ eO
end
end Px
namespace Px
open Go
variable {F:Fs} {P:Program} {k:Ok}
theorem QZ{F:Fs}{B:Bl}:∀v:Value,∃u,VR F B u v
 | .bool b=>⟨_,.bool b⟩
 | .nilFunc=>⟨_,.nilFunc⟩
 | .nilIface=>⟨_,.nilIface⟩
 | .pointer none=>⟨_,.dB⟩
 | .map none=>⟨_,.nO⟩
 | .chan none=>⟨_,.lI⟩
 | .slice none n c=>⟨_,.dK n c⟩
 | .func (.method _) _ _=>⟨_,.qG⟩
 | .agg c=>by
  have h:∀(i:Nat) (H:i<c.size),∃u,VR F B u c[i]:=λi H=>QZ c[i]
  refine⟨.agg (Array.ofFn λi:_root_.Fin c.size=>(h i.1 i.2).choose),.agg eO λi h1 e=>?_⟩;rw[Array.getElem_ofFn];exact (h i e).choose_spec
 | .int _ _ | .float _ _ | .complex _ _ _ | .string _ | .pointer (some _) | .slice (some _) _ _ | .map (some _) | .chan (some _) | .iface _ _ | .tuple _=>⟨_,.junk (by simp[JK])⟩
 | .func (.func _) _ _=>⟨_,.junk (by simp[JK])⟩
 | .func (.yield _) _ _=>⟨_,.junk (by simp[JK])⟩
 | .func (.methodOf _ _) _ _=>⟨_,.junk (by simp[JK])⟩
 | .func (.via _ _ _ _) _ _=>⟨_,.junk (by simp[JK])⟩
termination_by v=>sizeOf v
def mO(Ro:Nat->Prop):Bl:=λa b=>a=b/\Ro a
open Classical
noncomputable def jn(F:Fs)(Ro:Nat->Prop)(v:Value):Value:=if VR F (mO Ro) v v then v else (QZ (F:=F) (B:=mO Ro) v).choose
theorem Kz{Ro:Nat->Prop}(v:Value):VR F (mO Ro) (jn F Ro v) v:=by
 unfold jn;split
 ·assumption
 ·exact (QZ v).choose_spec
theorem eD{Ro:Nat->Prop}{v:Value}(h:VR F (mO Ro) v v):jn F Ro v=v:=if_pos h
noncomputable def E5(F:Fs)(Ro:Nat->Prop)(h:Array Obj):Array Obj:=h.mapIdx λb o=>if Ro b then (match o with | .cells xs t _=>.cells (xs.map (jn F Ro)) t (0,xs.size)|o=>o) else o
theorem BQ{Ro:Nat->Prop}{h:Array Obj}:(E5 F Ro h).size=h.size:=by simp[E5]
theorem Iq{Ro:Nat->Prop}{h:Array Obj}{b:Nat}{H:Array Value}{t:TypeId}{z:Nat×Nat}(hr:Ro b)(e:h[b]? = some (.cells H t z)):(E5 F Ro h)[b]? = some (.cells (H.map (jn F Ro)) t (0,(H.map (jn F Ro)).size)):=by
 unfold E5;rw[Array.getElem?_mapIdx,e];simp[hr]
theorem HR.kF{Ro:Nat->Prop}{h:Array Obj}{K:Cs}(hc:∀b,Ro b->∃I t z,h[b]? = some (.cells I t z))(hG:F.G<h.size)(M:F.cm=false)(J:∀b,¬ F.cut b):HR F K h.size (mO Ro) (E5 F Ro h) h where
 left:=by rintro a b Z ⟨rfl,_⟩ ⟨rfl,_⟩;rfl
 right:=by rintro a U b ⟨rfl,_⟩ ⟨rfl,_⟩;rfl
 obj:=by
  rintro a b ⟨rfl,hr⟩;obtain⟨I,t,z,e⟩:=hc a hr;exact⟨_,_,Iq hr e,e,.inl (.cells t ⟨eO,λi h1 h2=>by rw[Array.getElem_map];exact Kz _⟩ (.inr ⟨M,rfl⟩))⟩
 ro:=by
  rintro a b ⟨rfl,hr⟩ _;obtain⟨I,t,z,e⟩:=hc a hr;exact⟨_,t,Iq hr e⟩
 base:=le_refl _
 lo:=by rw[BQ];exact hG
 lo2:=hG
 yT:=λ_=>⟨BQ,λ_ _ h=>h.1⟩
 co:=λb H=>absurd H (J b)
 qH:=λ_ b _ H=>absurd H (J b)
def Lone(F:Fs)(Ro:Nat->Prop)(w w0:World):Prop:=∃T d,w0=at_ w (E5 F Ro w.heap) T d
theorem Lone.cell{Ro:Nat->Prop}{w H:World}(h:Lone F Ro w H){p:Addr}{v:Value}(hr:Ro p.block)(J:VR F (mO Ro) v v)(hc:w.cell? p=some v):H.cell? p=some v:=by
 obtain⟨T,d,rfl⟩:=h;unfold World.cell? at hc ⊢;cases e:w.heap[p.block]? with
 | none=>rw[e] at hc;cases hc
 | some o=>
  rw[e] at hc;cases o with
  | cells xs t z=>
   have:=Iq (F:=F) hr e;simp only[at_,this];simp only at hc;split at hc
   ·cases hc
   ·rename_i I;rw[if_neg I,Array.getElem?_map,hc];simp[eD J]
  | _=>cases hc
theorem Lone.size{Ro:Nat->Prop}{w e:World}(h:Lone F Ro w e):e.heap.size=w.heap.size:=by
 obtain⟨T,d,rfl⟩:=h;exact BQ
theorem O4{Y O:Nat->Prop}{w w':World}:grow (λb=>Y b\/O b) w w'=λb=>Y b\/grow O w w' b:=by
 funext b;apply propext;unfold grow;exact⟨λh=>h.elim (λh=>h.imp id .inl) λh=>.inr (.inr h),λh=>h.elim (λh=>.inl (.inl h)) λh=>h.imp .inr id⟩
theorem Runs.frame{m:Bool}{Ro U Y O:Nat->Prop}{S:aR}{g:Goroutine}{w:World}(h:Runs P m U S g w O)(Z:∀b,U b->Ro b\/Y b):Runs P m Ro (λg w O1=>∃O,O1=(λb=>Y b\/O b)/\S g w O) g w λb=>Y b\/O b:=by
 have hk:∀ {O:Nat->Prop} {w H:World},Keep Ro (λb=>Y b\/O b) w H->Keep U O w H:=λh=>⟨h.size,λb J=>h.same b (by
  rcases J with J|J
  ·exact (Z b J).imp id .inl
  ·exact .inr (.inr J)),h.env⟩
 have he:∀ {O:Nat->Prop} {e:Event},ng U O e->ng Ro (λb=>Y b\/O b) e:=fun {O e} h=>by
  cases h with
  | read h=>exact .read (h.elim (λh=>(Z _ h).imp id .inl) λh=>.inr (.inr h))
  | write h=>exact .write (.inr h)
  | sO h=>exact .sO (h.elim (λh=>(Z _ h).imp id .inl) λh=>.inr (.inr h))
  | o7 h=>exact .o7 (.inr h)
  | room=>exact .room
  | ext f=>exact .ext f
 induction h with
 | stop h=>exact .stop λH I=>⟨_,rfl,h H (hk I)⟩
 | step h1 _ ih=>
  refine .step (λH I=>?_) λH g' w' es I e=>?_
  ·obtain⟨g',w',es,e1,e2,M⟩:=h1 H (hk I);exact⟨g',w',es,e1,e2,M.size,λb J hn=>M.old b J λh=>hn (.inr h),M.tape,M.os,M.output,λe hm=>by rw[O4];exact he (M.evs e hm)⟩
  ·rw[O4];exact ih H g' w' es (hk I) e
end Px
namespace Px
open Go Go.Conc
variable {F:Fs} {P:Program} {k:Ok}
structure Base(F:Fs)(P:Program)(k:Ok):Prop where
 S:Setup F P k
 hin:∀f,F.fk f->P.inits.idxOf? f=none
 trap:∃fr:Frame,P.funcs[fr.fn]? = none/\fr.defers = []/\∀l,(fr.raise l).catches P=true
structure Rd(F:Fs)(k:Ok)(Ro:Nat->Prop)(w:World):Prop where
 cells:∀b,Ro b->∃xs t z,w.heap[b]? = some (.cells xs t z)
 gl:∀g,k.gl g=true->Ro g
 G:F.G<w.heap.size
 ex:∀f,F.ex f->Ro F.G
 cm:F.cm=false
 kF:F.kF=false
 ct:∀b,¬ F.cut b
theorem Rd.gb{Ro:Nat->Prop}{w:World}(h:Rd F k Ro w)(hG:F.G=P.globals.size):GB F P k (mO Ro):=⟨λg H=>⟨rfl,h.gl g H⟩,λf e=>⟨hG,rfl,h.ex f e⟩⟩
def Self(F:Fs)(Ro:Nat->Prop)(v:Value):Prop:=VR F (mO Ro) v v
theorem Rd.lt{Ro:Nat->Prop}{w:World}(h:Rd F k Ro w){b:Nat}(H:Ro b):b<w.heap.size:=by
 obtain⟨_,_,_,e⟩:=h.cells b H;exact (Array.getElem?_eq_some_iff.1 e).1
inductive Pv (F:Fs) (Ro:Nat->Prop):Value->Prop
 | bool (b:Bool):Pv F Ro (.bool b)
 | int (k:IntKind) (n:Int):Pv F Ro (.int k n)
 | string (s:ByteArray):Pv F Ro (.string s)
 | dB:Pv F Ro (.pointer none)
 | ptr {a:Addr}:Ro a.block->Pv F Ro (.pointer (some a))
 | dK (n c:Nat):Pv F Ro (.slice none n c)
 | sl {a:Addr} (n c:Nat):Ro a.block->Pv F Ro (.slice (some a) n c)
 | sl0 (a:Addr):Pv F Ro (.slice (some a) 0 0)
 | func {f:Nat}:F.fn f->Pv F Ro (.func (.func f) #[] #[])
 | nilFunc:Pv F Ro .nilFunc
 | nilIface:Pv F Ro .nilIface
 | iface {v:Value} (t:TypeId):Pv F Ro v->Pv F Ro (.iface t v)
 | agg {xs:Array Value}:(∀(i:Nat) (h:i<xs.size),Pv F Ro xs[i])->Pv F Ro (.agg xs)
theorem Pv.self{Ro:Nat->Prop}{v:Value}(h:Pv F Ro v):Self F Ro v:=by
 induction h with
 | bool b=>exact .bool b
 | int k n=>exact .int k n
 | string s=>exact .string s
 | dB=>exact .dB
 | ptr h=>exact .ptr ⟨⟨rfl,h⟩,rfl,rfl,λ_=>rfl⟩
 | dK n c=>exact .dK n c
 | sl n c h=>exact .sl n c ⟨⟨rfl,h⟩,rfl,rfl,λ_=>rfl⟩
 | sl0 a=>exact .sl0 a
 | func hf=>exact .func (.inl hf) rfl rfl (λi h=>absurd h (not_lt_zero _)) λi h=>absurd h (not_lt_zero _)
 | nilFunc=>exact .nilFunc
 | nilIface=>exact .nilIface
 | iface t _ ih=>exact .iface t ih
 | agg _ ih=>exact .agg rfl λi h _=>ih i h
theorem Pv.mono{Ro e:Nat->Prop}(hr:∀b,Ro b->e b){v:Value}(h:Pv F Ro v):Pv F e v:=by
 induction h with
 | bool b=>exact .bool b
 | int k n=>exact .int k n
 | string s=>exact .string s
 | dB=>exact .dB
 | ptr h=>exact .ptr (hr _ h)
 | dK n c=>exact .dK n c
 | sl n c h=>exact .sl n c (hr _ h)
 | sl0 a=>exact .sl0 a
 | func hf=>exact .func hf
 | nilFunc=>exact .nilFunc
 | nilIface=>exact .nilIface
 | iface t _ ih=>exact .iface t ih
 | agg _ ih=>exact .agg ih
theorem Pv.only{K:Cs}{base:Nat}{B:Bl}{Ro:Nat->Prop}{h h':Array Obj}(H:HR F K base B h h')(e:Ext (mO Ro) B){t:TypeId}{x:Addr}(hr:Ro x.block){M:Value}(U:VR F B (.iface t (.pointer (some x))) M):M = .iface t (.pointer (some x)):=by
 cases U with
 | iface _ h=>
  cases h with
  | @ptr _ z hb=>
   have h1:=hb.block;have:=H.left _ _ _ (e _ _ ⟨rfl,hr⟩) h1;obtain⟨Z,o1,s1⟩:=x;obtain⟨b2,o2,s2⟩:=z;have I:=hb.off;have J:=hb.spot;dsimp only at this I J;subst this I J;rfl
theorem Rd.hr{Ro:Nat->Prop}{w:World}(h:Rd F k Ro w):HR F (KK P k) w.heap.size (mO Ro) (E5 F Ro w.heap) w.heap:=HR.kF h.cells h.G h.cm h.ct
theorem O5{Ro:Nat->Prop}{l:List Value}(h:∀v∈l,Self F Ro v):aX F (mO Ro) l.toArray l.toArray:=⟨rfl,λi a _=>h _ (by simp at a;simp)⟩
theorem Ue(b:Base F P k){m:Bool}{Ro:Nat->Prop}{w:World}(r:Rd F k Ro w){f:FuncId}{cs:List Frame}{args:List Value}(U:QK P f)(M:F.fn f)(J:∀v∈args,Self F Ro v)(H:Value->Array Obj->Prop)
  (C:∀I,Lone F Ro w I->Calls P f args.toArray I λe w'=>∃v,e = .returned v/\H v w'.heap):Runs P m Ro (QL F P k w.heap.size (mO Ro) f cs H) (G (Frame.enter P f args.toArray .normal) cs) w λ_=>False:=
 transfer b.S r.kF (r.gb b.S.G) (λ_ _ h=>.inl (h.1 ▸ h.2)) (λ_ h=>r.lt h) (λ_ h=>h.elim) b.hin U M r.hr (O5 J) H b.trap (wL:=w) λT d=>C _ ⟨T,d,rfl⟩
theorem gP{m:Bool}{e c:Frame}{cs:List Frame}{fn:Func}{v:Value}{w:World}(H:e.mode = .returning)(J:e.defers = [])(hk:e.kind = .normal)(M:P.funcs[e.fn]? = some fn)(hr:ResultsC P fn e.tmps v):stepG P m (G e (c::cs)) w = .go (G (c.finish v) cs) w:=by
 rw[lY (by rw[H];exact λh=>by cases h)];have h1:=(hr w).1;have I:=(hr w).2;simp[unwind,doReturn,J,H,hk,M,h1,I,seen,GStep.after,G]
def Q0(F:Fs)(P:Program)(k:Ok)(base:Nat)(Ro:Nat->Prop)(Post:Value->Array Obj->Prop)(v':Value)(w:World)(O:Nat->Prop):Prop:=∃v B hL,VR F B v v'/\HR F (KK P k) base B hL w.heap/\Ext (mO Ro) B/\(∀a b,B a b->mO Ro a b\/O b)/\Post v hL
theorem LH(b:Base F P k){m:Bool}{Ro:Nat->Prop}{w:World}(r:Rd F k Ro w){f:FuncId}{c:Frame}{cs:List Frame}{args:List Value}{S:aR}(Ē:QK P f)(hf:F.fn f)(ha:∀v∈args,Self F Ro v)(J:Value->Array Obj->Prop)
  (C:∀U,Lone F Ro w U->Calls P f args.toArray U λe w'=>∃v,e = .returned v/\J v w'.heap) (hn:∀Z w' O,Q0 F P k w.heap.size Ro J Z w' O->w.heap.size<=w'.heap.size->(∀b,Ro b->w'.heap[b]? = w.heap[b]?)->Runs P m Ro S (G (c.finish Z) cs) w' O):Runs P m Ro S (G (Frame.enter P f args.toArray .normal) (c::cs)) w λ_=>False:=by
 have key:=Ue b (m:=m) r (cs:=c::cs) Ē hf ha J C;have inv:∀ {g:Goroutine} {U:World} {O:Nat->Prop},Runs P m Ro (QL F P k w.heap.size (mO Ro) f (c::cs) J) g U O->w.heap.size<=U.heap.size->(∀b,Ro b->U.heap[b]? = w.heap[b]?)->(∀b,O b->¬ Ro b)->Runs P m Ro S g U O:=by
  intro g U O h;induction h with
  | @stop g U O h=>
   intro hz hs ho;have st:∀I,Keep Ro O U I->∃Z,stepG P m g I = .go (G (c.finish Z) cs) I/\Q0 F P k w.heap.size Ro J Z I O:=by
    intro I hk;obtain⟨fr,fn,v,Z,B,hL,rfl,hm,hd,ņ,ē,hfu,hr,hv,H,he,ow,hp⟩:=h I hk;exact⟨Z,gP hm hd ņ (by rw[ē];exact hfu) hr,v,B,hL,hv,H,he,ow,hp⟩
   refine .step (λI hk=>?_) λI g' w' es hk e=>?_
   ·obtain⟨Z,e1,_⟩:=st I hk;exact⟨_,_,_,e1,rfl,.rest λe he=>by simp at he⟩
   ·obtain⟨Z,e1,e2⟩:=st I hk;rw[e1] at e;cases e;rw[nX];exact hn Z I O e2 (le_trans hz hk.size) λb M=>(hk.same b (.inl M)).trans (hs b M)
  | @step g U O h1 h2 ih=>
   intro hz hs ho;refine .step h1 λI g' w' es hk e=>?_
   obtain⟨_,_,_,e1,_,hf⟩:=h1 I hk;rw[e1] at e;cases e;have Ü:=le_trans hz hk.size;have Ä:∀b,Ro b->I.heap[b]? = w.heap[b]?:=λb M=>(hk.same b (.inl M)).trans (hs b M)
   refine ih I _ _ _ hk e1 (le_trans Ü hf.size) (λb M=>?_) λb M hr=>?_
   ·have ύ:=lt_of_lt_of_le (r.lt M) Ü;exact (hf.old b ύ λh=>ho b h M).trans (Ä b M)
   ·rcases M with M|M
    ·exact ho b M hr
    ·have:=r.lt hr;omega
 exact inv key (le_refl _) (λ_ _=>rfl) λ_ h=>h.elim
end Px
namespace Px
open Go Go.Conc
def xH(P:Program)(S:Goroutine->Prop):Nat->Goroutine->Prop
 | 0,g=>g.status = .running/\S g
 | q+1,g=>g.status = .running/\(S g\/∀w,∃g',stepG P false g w = .go g' w/\xH P S q g')
theorem xH.running{P:Program}{S:Goroutine->Prop}{q:Nat}{g:Goroutine}(h:xH P S q g):g.status = .running:=by
 cases q<;>exact h.1
structure Dg where
 P:Program
 Sw:Nat->Prop
 Ro:Nat->Prop
 h0:Nat->Option Obj
 D:Nat->Nat
 L:Nat->Prop
 st:Nat->aR
 qt:Nat->Goroutine->Prop
 iw:Nat->aR
 T:Nat->Trace->Prop
structure Dg.Ok(p:Dg):Prop where
 tr:∀j t u,p.T j t->(∀op∈u,op.g=j->op.act.touch? = none)->p.T j (t++u)
def l9(p:Dg)(j:Nat):bW->Goroutine->World->Trace->Prop
 | .run m S g w O,x,W,_=>p.L j/\m=(j==0)/\S=p.st j/\x=g/\x.status = .running/\Runs p.P m p.Ro S g w O/\Keep p.Ro O w W
 | .idle g w O,x,W,_=>p.L j/\(x=g\/x = { g with status:=.running })/\(g.status = .running\/(j=0/\g.status = .blocked))/\Keep p.Ro O w W/\p.iw j g w O
 | .quit q,x,_,t=>j≠0/\p.T j t/\((¬ p.L j/\QuitsD p.P q (Deaf t j) x)\/(p.L j/\xH p.P (p.qt j) q x))
structure GD(p:Dg)(gs:Array Goroutine)(W:World)(t:Trace)(rl:List bW):Prop where
 len:rl.length=gs.size
 wi:WI p.Sw p.L p.D p.Ro rl W t
 fx:∀b,p.Sw b->W.heap[b]? = p.h0 b
 fit:∀j r x,rl[j]? = some r->gs[j]? = some x->l9 p j r x W t
 pos:0<gs.size
section
variable {p:Dg} {gs gs':Array Goroutine} {W W':World} {t t' u:Trace} {rl rl':List bW}
theorem Uf{w:World}{x:Goroutine}:x.again w=x\/x.again w = { x with status:=.running }:=by
 unfold Goroutine.again;split
 ·dsimp only
  split
  ·exact .inr rfl
  ·exact .inl rfl
 ·exact .inr rfl
 ·exact .inr rfl
 ·exact .inl rfl
theorem l9.woken{j:Nat}{r:bW}{x:Goroutine}(h:l9 p j r x W t)(g g':Goroutine)(w':World):l9 p j r (Conc.woken p.P g g' w' x) W t:=by
 unfold Conc.woken;split
 ·match r,h with
  | .run ..,⟨a,b,c,d,e,f,k⟩=>rw[jZ (.inl e)];exact⟨a,b,c,d,e,f,k⟩
  | .idle g0 w0 O,⟨a,b,c,d⟩=>
   refine⟨a,?_,c,d⟩;rcases Uf (w:=w') (x:=x) with e|e<;>rw[e]
   ·exact b
   ·rcases b with rfl|rfl
    ·exact .inr rfl
    ·exact .inr rfl
  | .quit q,⟨a,b,c⟩=>
   rw[jZ (c.elim (λh=>j3 h.2) λh=>.inl h.2.running)];exact⟨a,b,c⟩
 ·exact h
theorem l9.mono(o:p.Ok){j:Nat}{r:bW}{x:Goroutine}(h:l9 p j r x W t)(hk:Keep p.Ro r.own W W')(I:∀op∈u,op.g=j->op.act.touch? = none)(H:¬ p.L j->Deaf (t++u) j=Deaf t j):l9 p j r x W' (t++u):=by
 match r,h with
 | .run ..,⟨a,b,c,d,e,f,k⟩=>exact⟨a,b,c,d,e,f,k.trans hk⟩
 | .idle ..,⟨a,b,c,d,e⟩=>exact⟨a,b,c,d.trans hk,e⟩
 | .quit q,⟨a,b,c⟩=>exact⟨a,o.tr _ _ _ b I,c.imp (λh=>⟨h.1,by rw[H h.1];exact h.2⟩) id⟩
theorem GD.one(o:p.Ok)(h:GD p gs W t rl){j:Nat}{r':bW}{g g':Goroutine}(gw:Goroutine)(U:j<gs.size)(wi:WI p.Sw p.L p.D p.Ro (rl.set j r') W' (t++u))(fx:∀b,p.Sw b->W'.heap[b]? = W.heap[b]?)(keep:∀k r,k≠j->rl[k]? = some r->Keep p.Ro r.own W W')(Z:∀op∈u,op.g=j)
  (I:l9 p j r' g' W' (t++u)):GD p ((gs.map (Conc.woken p.P g gw W')).setIfInBounds j g') W' (t++u) (rl.set j r'):=by
 have ύ:=h.len ▸ U;refine⟨by simp[h.len],wi,λb M=>(fx b M).trans (h.fx b M),λk r x hr H=>?_,by simpa using h.pos⟩;by_cases hk:k=j
 ·subst hk;rw[List.getElem?_set_self ύ] at hr;cases hr;rw[get_set_same (by simpa using U)] at H;cases H;exact I
 ·rw[List.getElem?_set_ne (Ne.symm hk)] at hr;rw[cZ (Ne.symm hk),Array.getElem?_map] at H;cases J:gs[k]? with
  | none=>rw[J] at H;cases H
  | some y=>
   rw[J] at H;simp only[Option.map_some,Option.some.injEq] at H;subst H;exact ((h.fit k r y hr J).mono o (keep k r hk hr) (λop ό e=>absurd (e.symm.trans (Z op ό)) hk) λ_=>Deaf_other t (Ne.symm hk) u Z).woken _ _ _
theorem GD.own(o:p.Ok)(h:GD p gs W t rl){j:Nat}{m:Bool}{S:aR}{g g':Goroutine}{w w':World}{O:Nat->Prop}{es:Array Event}(fn:FuncId)(pos:String)(H:rl[j]? = some (.run m S g w O))(I:nT p.Ro O W w' es)(Z:g'.status = .running)(hr:Runs p.P m p.Ro S g' w' (grow O W w')):
  GD p ((gs.map (Conc.woken p.P g g' w')).setIfInBounds j g') w' (t++MemOp.ofEvents j fn pos es) (rl.set j (.run m S g' w' (grow O W w'))):=by
 have ύ:=(List.getElem?_eq_some_iff.1 H).1;have M:=h.len ▸ ύ;obtain⟨x,hx⟩:∃x,gs[j]? = some x:=⟨gs[j],by simp[M]⟩;obtain⟨a,b,c,d,e,f,k⟩:=h.fit j _ x H hx;exact h.one o g' M (h.wi.step H a I) (λb J=>I.old b (h.wi.ap.pV b J) λU=>h.wi.ap.sw j b ⟨_,H,U⟩ J) (λk r hk hr=>keep_other h.wi.ap H hr hk I (.refl ..)) ConcR.g_of_ofEvents ⟨a,b,c,rfl,Z,hr,.refl ..⟩
theorem GD.at(o:p.Ok)(h:GD p gs W t rl)(d:Nat):GD p gs (W.at d) t rl:=
 ⟨h.len,⟨h.wi.ap,h.wi.ti,h.wi.deaf,h.wi.pY⟩,h.fx,λj r x hr e=>by
  have:=(h.fit j r x hr e).mono o (u:=#[]) (iN _ _ _ d) (λop H=>by simp at H) λ_=>by rw[Array.append_empty]
  rwa [Array.append_empty] at this,h.pos⟩
theorem GD.mute(o:p.Ok)(h:GD p gs W t rl){j:Nat}{r r':bW}{g g':Goroutine}{es:Array Event}(fn:FuncId)(pos:String)(M:Goroutine)(U:rl[j]? = some r)(ϗ:r'.own=r.own)(hm:∀e,e∈es->(MemAct.ofEvent e).touch? = none)(Ņ:∀e,e∈es->∀a,MemAct.ofEvent e ≠ .mark (.release a))(hd:p.L j->Deaf (t++MemOp.ofEvents j fn pos es) j=Deaf t j)
  (I:l9 p j r' g' W (t++MemOp.ofEvents j fn pos es)):GD p ((gs.map (Conc.woken p.P g M W)).setIfInBounds j g') W (t++MemOp.ofEvents j fn pos es) (rl.set j r'):=by
 have ύ:=(List.getElem?_eq_some_iff.1 U).1;have iO:=h.len ▸ ύ;have e:=qo U ϗ;have ops:∀op∈MemOp.ofEvents j fn pos es,op.act.touch? = none/\op.g<rl.length:=by
  intro op H;refine⟨?_,by rw[ConcR.g_of_ofEvents op H];exact ύ⟩;unfold MemOp.ofEvents at H;split at H
  ·simp at H
  ·obtain⟨e,he,rfl⟩:=Array.mem_map.1 H;exact hm e he
 refine h.one o M iO ?_ (λ_ _=>rfl) (λ_ _ _ _=>.refl ..) ConcR.g_of_ofEvents I;refine⟨by rw[e];exact h.wi.ap,?_,λk hk=>?_,qb h.wi.pY λop H=>.none (λa=>?_) (ops op H).1⟩
 ·rw[e,length_set];exact h.wi.ti.still (le_refl _) ops (λg b hl ho=>⟨g,hl,ho,λi J=>J.app _⟩) λg hl=>⟨g,hl,λi J=>J.app _⟩
 ·by_cases Z:k=j
  ·subst Z;rw[hd hk];exact h.wi.deaf k hk
  ·rw[Deaf_other t (Ne.symm Z) _ ConcR.g_of_ofEvents];exact h.wi.deaf k hk
 ·unfold MemOp.ofEvents at H;split at H
  ·simp at H
  ·obtain⟨e,he,rfl⟩:=Array.mem_map.1 H;exact Ņ e he a
theorem GD.silent(o:p.Ok)(h:GD p gs W t rl){j q:Nat}{g:Goroutine}(M:rl[j]? = some (.quit q))(hg:gs[j]? = some g)(hr:g.status = .running)(ϝ:¬ (p.L j/\p.qt j g)):∃g' es q',q=q'+1/\stepG p.P false g W = .go g' W es /\
  ∀fn pos,GD p ((gs.map (Conc.woken p.P g g' W)).setIfInBounds j g') W (t++MemOp.ofEvents j fn pos es) (rl.set j (.quit q')):=by
 obtain⟨ϧ,hT,H⟩:=h.fit j _ g M hg;cases q with
 | zero=>
  rcases H with⟨_,H⟩|⟨hl,H⟩
  ·rw[H.1] at hr;cases hr
  ·exact absurd ⟨hl,H.2⟩ ϝ
 | succ q=>
  rcases H with⟨hl,H⟩|⟨hl,_,H⟩
  ·rcases H with⟨h1,_⟩|⟨_,g',es,hm,U,H⟩
   ·rw[h1] at hr;cases hr
   ·refine⟨g',es,q,rfl,U W,λfn pos=>?_⟩;have I:∀e,e∈es->(MemAct.ofEvent e).touch? = none:=by
     intro e he;have:=hm e he;unfold Event.mute at this;split at this<;>first|rfl|cases this
    have Ņ:∀e,e∈es->∀a,MemAct.ofEvent e ≠ .mark (.release a):=by
     intro e he a;have:=hm e he;unfold Event.mute at this;split at this<;>first|exact λh=>by cases h|cases this
    refine h.mute o fn pos g' M rfl I Ņ (λh=>absurd h hl) ⟨ϧ,o.tr _ _ _ hT λop J _=>?_,.inl ⟨hl,by rw[Deaf_own];exact H⟩⟩;unfold MemOp.ofEvents at J;split at J
    ·simp at J
    ·obtain⟨e,he,rfl⟩:=Array.mem_map.1 J;exact I e he
  ·obtain⟨g',U,H⟩:=H.resolve_left (λh=>ϝ ⟨hl,h⟩) W;refine⟨g',#[],q,rfl,U,λfn pos=>?_⟩;have Z:t++MemOp.ofEvents j fn pos #[]=t:=by simp[MemOp.ofEvents]
   refine h.mute o fn pos g' M rfl (λe he=>by simp at he) (λe he=>by simp at he) (λ_=>by rw[Z]) ⟨ϧ,by rw[Z];exact hT,.inr ⟨hl,H⟩⟩
theorem GD.WK(h:GD p gs W t rl):Acc (LL (Jq p.P p.Ro)) rl:=by
 refine EX λr hr=>?_
 obtain⟨j,e⟩:=mem_iff_getElem?.1 hr;have I:=(List.getElem?_eq_some_iff.1 e).1;have H:=h.fit j r (gs[j]'(by rw[<-h.len];exact I)) e eO;match r,H with
 | .run ..,⟨_,_,_,_,_,h4,_⟩=>exact h4.acc
 | .idle ..,_=>exact vW
 | .quit _,_=>exact LC _
theorem GD.awake(h:GD p gs W t rl):∀g,g∈gs->awake g:=by
 intro g M k e;obtain⟨j,I⟩:=Array.mem_iff_getElem?.1 M;have U:=(Array.getElem?_eq_some_iff.1 I).1;obtain⟨r,hr⟩:∃r,rl[j]? = some r:=⟨rl[j]'(by rw[h.len];exact U),eO⟩;have J:=h.fit j r g hr I;match r,J with
 | .run ..,⟨_,_,_,_,h4,_⟩=>rw[e] at h4;cases h4
 | .idle ..,⟨_,h4,H,_⟩=>
  rcases h4 with rfl|rfl
  ·rcases H with H|⟨_,H⟩<;>(rw[e] at H;cases H)
  ·cases e
 | .quit _,⟨_,_,h4⟩=>
  rcases h4 with⟨_,h4⟩|⟨_,h4⟩
  ·rcases j3 h4 with h|h<;>(rw[e] at h;cases h)
  ·rw[h4.running] at e;cases e
def LJ(p:Dg)(rl:List bW)(i:Nat)(g:Goroutine):Prop:=(∃m g w O,rl[i]? = some (.run m (p.st i) g w O)/\∀w₁,Keep p.Ro O w w₁->p.st i g w₁ O)\/(∃g w O,rl[i]? = some (.idle g w O))\/((∃q,rl[i]? = some (.quit q))/\p.L i/\p.qt i g)
theorem drive(o:p.Ok){Q:Machine->Outcome->World->Trace->Prop}{N:Nat}(ϳ:∀gs W t rl,GD p gs W t rl->gs.size=N->∃(i:Nat) (g:Goroutine),gs[i]? = some g/\g.status = .running)
  (Ev:∀gs W t rl,GD p gs W t rl->gs.size=N->∀i g d sl,gs[i]? = some g->g.status = .running->LJ p rl i g->(i=0->∀e,e.status = .blocked->GD p (gs.setIfInBounds 0 e) (W.at d) t rl->gK p.P Q (gs.setIfInBounds 0 e) (W.at d) t)->iQ p.P Q gs W t i d sl) :
  ∀gs W t rl,GD p gs W t rl->gs.size=N->gK p.P Q gs W t:=by
 intro gs W t rl h J;have acc:=h.WK;induction acc generalizing gs W t with
 | intro rl _ ih=>
  have main:∀gs W t,GD p gs W t rl->gs.size=N->(∀d e,gs[0]?.map (·.status)=some .running->e.status = .blocked->GD p (gs.setIfInBounds 0 e) (W.at d) t rl->gK p.P Q (gs.setIfInBounds 0 e) (W.at d) t)->gK p.P Q gs W t:=by
   intro gs W t h J Ug;refine Ip h.awake (ϳ _ _ _ _ h J) λi g d sl M hr=>?_
   have hW:=h.at o d;have ύ:=(Array.getElem?_eq_some_iff.1 M).1;obtain⟨r,H⟩:∃r,rl[i]? = some r:=⟨rl[i]'(by rw[h.len];exact ύ),eO⟩;have hf:=h.fit i r g H M;have Z:LJ p rl i g->iQ p.P Q gs W t i d sl:=λhE=>Ev _ _ _ _ h J i g d sl M hr hE λhi e hx hG=>Ug d e (by subst hi;rw[M,<-hr];rfl) hx hG
   match r,hf with
   | .run m S g' w O,⟨_,e1,e2,e3,_,hR,hk⟩=>
    subst e1 e2 e3;by_cases Ϗ:∀I,Keep p.Ro O w I->p.st i g I O
    ·exact Z (.inl ⟨_,_,_,_,H,Ϗ⟩)
    ·cases hR with
     | stop h=>exact absurd h Ϗ
     | step h1 h2=>
      have ņ:Keep p.Ro O w (W.at d):=hk.trans (iN ..);obtain⟨g',w',es,U,s2,s3⟩:=h1 _ ņ;refine .inl ⟨_,_,_,runT_crowd_go M U,ih _ (.mk H (.step Ϗ ņ U)) _ _ _ (hW.own o _ _ H s3 s2 (h2 _ _ _ _ ņ U)) (by simpa using J)⟩
   | .idle ..,_=>exact Z (.inr (.inl ⟨_,_,_,H⟩))
   | .quit q,hf=>
    by_cases hq:p.L i/\p.qt i g
    ·exact Z (.inr (.inr ⟨⟨_,H⟩,hq⟩))
    ·obtain⟨g',es,q',rfl,U,hG⟩:=hW.silent o H M hr hq;have hm:=beq_eq_false_iff_ne.2 hf.1;refine .inl ⟨_,_,_,runT_crowd_go M (by rw[hm];exact U),ih _ (.mk H .quit) _ _ _ (hG _ _) (by simpa using J)⟩
  refine main gs W t h J λd e _ hx hG=>main _ _ _ hG (by simpa using J) λd' x'' hr=>?_
  rw[get_set_same h.pos] at hr;simp only[Option.map_some,Option.some.injEq] at hr;rw[hx] at hr;cases hr
end
end Px
namespace Px
open Go Go.Conc
section
variable {p q:Dg} {gs:Array Goroutine} {W W':World} {t u:Trace} {rl:List bW}
theorem l9.to{k:Nat}{r:bW}{x:Goroutine}(J:q.P=p.P)(H:q.Ro=p.Ro)(hL:p.L k->q.L k)(I:q.L k->p.L k)(Ϗ:q.st k=p.st k)(xI:q.qt k=p.qt k)(M:q.iw k=p.iw k)(U:p.T k t->q.T k t)(h:l9 p k r x W t):l9 q k r x W t:=by
 match r,h with
 | .run ..,⟨a,b,c,d,e,f,g⟩=>exact⟨hL a,b,c.trans Ϗ.symm,d,e,by rw[J,H];exact f,H ▸ g⟩
 | .idle ..,⟨a,b,c,d,e⟩=>exact⟨hL a,b,c,H ▸ d,by rw[M];exact e⟩
 | .quit _,⟨a,b,c⟩=>exact⟨a,U b,c.imp (λh=>⟨λZ=>h.1 (I Z),J ▸ h.2⟩) λh=>⟨hL h.1,by rw[J,xI];exact h.2⟩⟩
theorem TI.fewer{Sw:Nat->Prop}{n N:Nat}{live I:Nat->Prop}{e:Nat->Nat->Prop}{Ro:Nat->Prop}(h:TI Sw n live e Ro t N)(hl:∀k,I k->live k):TI Sw n I e Ro t N:=
 ⟨h.quiet,λg b H=>h.own g b (hl g H),λg b H=>h.ro g b (hl g H),h.fresh,h.nr,h.gs⟩
theorem GD.event(oq:q.Ok)(h:GD p gs W t rl)(hP:q.P=p.P)(hS:q.Sw=p.Sw)(fI:q.Ro=p.Ro){j:Nat}{r r':bW}{g g':Goroutine}(gw:Goroutine)(hj:rl[j]? = some r)(hl:p.L j)(J:∀k,q.L k->p.L k)(hL:∀k,k≠j->p.L k->q.L k)(Ϗ:∀k,k≠j->q.st k=p.st k/\q.qt k=p.qt k/\q.iw k=p.iw k/\q.D k=p.D k)
  (hT:∀k,k≠j->p.T k t->q.T k t) (size:W'.heap.size=W.heap.size) (old:∀b,¬ p.Sw b->W'.heap[b]? = W.heap[b]?) (fx:∀b,p.Sw b->W'.heap[b]? = q.h0 b) (own:∀b,r'.own b->r.own b) (hu:∀op∈u,OkG p.Sw j r'.own p.Ro op) (Ņ:∀op∈u,Nt p.Sw op) (hd:q.L j->Deaf (t++u) j=q.D j)
  (fit:l9 q j r' g' W' (t++u)) (jU:W'.os=W.os/\W'.output=W.output:=by exact⟨rfl,rfl⟩):GD q ((gs.map (Conc.woken p.P g gw W')).setIfInBounds j g') W' (t++u) (rl.set j r'):=by
 have Z:=(List.getElem?_eq_some_iff.1 hj).1;have iO:j<gs.size:=h.len ▸ Z;have Ę:∀op∈u,op.g=j:=λop U=>(hu op U).1
 have e:dP (rl.set j r')=λk b=>(k=j/\r'.own b)\/(k≠j/\dP rl k b):=pX Z
 have e0:∀k b,dP (rl.set j r') k b->dP rl k b:=by
  intro k b hk;rw[e] at hk;rcases hk with⟨rfl,H⟩|⟨_,H⟩
  ·exact⟨r,hj,own b H⟩
  ·exact H
 obtain⟨A',T'⟩:=TI.give (u:=u) (n':=W'.heap.size) h.wi.ap h.wi.ti hl Z (Nat.le_of_eq size.symm) (λb H=>H) (λb H=>.inl H) (Own':=dP (rl.set j r')) (λk b hk=>.inl (e0 k b hk)) (λk b hk=>h.wi.ap.sw _ _ (e0 k b hk)) λop U=>⟨(hu op U).1,λx I=>
  ((hu op U).2 x I).imp id λ⟨b,h1,h2⟩=>⟨b,h1,h2.imp (λh=>by rw[e];exact .inl ⟨rfl,h⟩) id⟩⟩
 have keep:∀(k:Nat) (M:bW),rl[k]? = some M->Keep p.Ro M.own W W':=λk M hr=>⟨Nat.le_of_eq size.symm,λb H=>old b λϣ=>H.elim (λH=>h.wi.ap.qM b H ϣ) λH=>h.wi.ap.sw k b ⟨_,hr,H⟩ ϣ,jU⟩
 refine⟨by simp[h.len],?_,λb H=>fx b (hS ▸ H),λk M x hr I=>?_,by simpa using h.pos⟩
 ·rw[hS,fI];refine⟨A',by rw[length_set];exact T'.fewer J,λk hk=>?_,qb h.wi.pY Ņ⟩;by_cases ı:k=j
  ·subst ı;exact hd hk
  ·rw[Deaf_other t (Ne.symm ı) u Ę,(Ϗ k ı).2.2.2];exact h.wi.deaf k (J k hk)
 ·by_cases hk:k=j
  ·subst hk;rw[List.getElem?_set_self Z] at hr;cases hr;rw[get_set_same (by simpa using iO)] at I;cases I;exact fit
  ·rw[List.getElem?_set_ne (Ne.symm hk)] at hr;rw[cZ (Ne.symm hk),Array.getElem?_map] at I;cases hg:gs[k]? with
   | none=>rw[hg] at I;cases I
   | some y=>
    rw[hg] at I;simp only[Option.map_some,Option.some.injEq] at I;subst I;obtain⟨s1,s2,s3,_⟩:=Ϗ k hk;have f1:l9 q k M y W t:=l9.to hP fI (hL k hk) (J k) s1 s2 s3 (hT k hk) (h.fit k M y hr hg);have f2:=f1.mono oq (u:=u) (W':=W') (fI ▸ keep k M hr) (λop U e=>absurd (e.symm.trans (Ę op U)) hk) λ_=>Deaf_other t (Ne.symm hk) u Ę
    have:=f2.woken g gw W';rwa [hP] at this
end
end Px
namespace Px
open Go Go.Conc
structure Gp where
 P:Program
 Ro:Nat->Prop
 ty:TypeId
 Wg:Nat
 cn:Nat
 eR:Value
def Gp.at(p:Gp)(w:World)(st sm:Int):Prop:=ConcR.WgAt p.ty p.Wg w st sm
def Gp.stA(p:Gp):Addr:=ConcR.stA p.Wg
def Gp.smA(p:Gp):Addr:=ConcR.smA p.Wg
def AtD4(p:Gp)(g:Goroutine):Prop:=mayWake p.P g=true/\∀w,p.at w 0 0->∃g',stepG p.P false g w = .go g' (w.setCell p.smA (.int .u32 1)) (semEvents p.smA)/\∃q,QuitsD p.P q 1 g'
def AtD3(p:Gp)(g:Goroutine):Prop:=∀w,p.at w 1 0->∃g',stepG p.P false g w = .go g' (w.setCell p.stA (.int .u64 0)) #[ConcR.wr p.stA]/\∃q,xH p.P (AtD4 p) q g'
def AtD2(p:Gp)(g:Goroutine):Prop:=∀w,p.at w 1 0->∃g',stepG p.P false g w = .go g' w #[ConcR.rd p.stA]/\∃q,xH p.P (AtD3 p) q g'
def AtD1(p:Gp)(g:Goroutine):Prop:=∀(w:World) (v wt:Nat),wt<=1->v<2147483647->p.at w (((v:Int)+1)*ConcR.KK+wt) 0->∃g',stepG p.P false g w = .go g' (w.setCell p.stA (.int .u64 ((v:Int)*ConcR.KK+wt))) #[ConcR.rd p.stA,ConcR.wr p.stA] /\
 ((v=0/\wt=1)->∃q,xH p.P (AtD2 p) q g')/\(¬ (v=0/\wt=1)->∃q,QuitsD p.P q 1 g')
def AtK1(p:Gp)(g:Goroutine):Prop:=∀w,∃g',stepG p.P false g w = .go g' w #[ConcR.mk .disable]/\∃q,xH p.P (AtD1 p) q g'
def AtR0(p:Gp)(g:Goroutine):Prop:=∀w,∃g',stepG p.P false g w = .go g' w #[ConcR.mk (.releaseMerge p.stA)]/\∃q,xH p.P (AtK1 p) q g'
def BR(p:Gp)(g:Goroutine):Prop:=∀w st sm,p.at w st sm->∃g',stepG p.P false g w = .go g' w #[]/\∃q,xH p.P (AtR0 p) q g'
def qc(p:Gp)(g:Goroutine):Prop:=∀w,∃g1,stepG p.P false g w = .comm g1 #[⟨.chan (some p.cn),none,p.eR⟩] true (.recv true) w #[]/\∃q,xH p.P (BR p) q (g1.finishComm p.P #[⟨.chan (some p.cn),none,p.eR⟩] (.recv true) (0:Nat) p.eR false)
section
variable (p:Gp) (Nx:aR)
def BS:aR:=λg w O=>∃g',stepG p.P true g w = .go g' w #[ConcR.mk (.acquire p.stA)]/\g'.status = .running/\∀w',Keep p.Ro O w w'->Nx g' w' O
def O6:aR:=λg w O=>∀st sm,p.at w st sm->∃g',stepG p.P true g w = .go g' w #[]/\g'.status = .running/\Runs p.P true p.Ro (BS p Nx) g' w O
def Js:aR:=λg w O=>∃g',stepG p.P true g w = .go g' w #[ConcR.mk .enable]/\g'.status = .running/\Runs p.P true p.Ro (O6 p Nx) g' w O
def Yv:aR:=λg w O=>p.at w 0 0->∃g',stepG p.P true g w = .go g' w #[ConcR.rd p.stA]/\g'.status = .running/\Runs p.P true p.Ro (Js p Nx) g' w O
def LK:aR:=λg w O=>g.status = .running/\g.offers=none/\(∀st,p.at w st 0->stepG p.P true g w = .go { g with status:=.blocked } w) /\
 (p.at w 0 1->∃g',stepG p.P true g w = .go g' (w.setCell p.smA (.int .u32 0)) (semEvents p.smA)/\g'.status = .running/\Runs p.P true p.Ro (Yv p Nx) g' (w.setCell p.smA (.int .u32 0)) O)
def Yw(sd:Array Event):aR:=λg w O=>∃g',stepG p.P true g w = .go g' w sd/\g'.status = .running/\Runs p.P true p.Ro (LK p Nx) g' w O
def Yx(sd:Array Event):aR:=λg w O=>∀st sm,p.at w st sm->∃g',stepG p.P true g w = .go g' w #[]/\g'.status = .running/\Runs p.P true p.Ro (Yw p Nx sd) g' w O
def Uh(sd:Array Event)(M1:aR)(vs:Nat):aR:=λg w O=>∀v:Nat,v<2147483648->p.at w ((v:Int)*ConcR.KK) 0 ->
 (v=vs->∃g',stepG p.P true g w = .go g' (w.setCell p.stA (.int .u64 ((v:Int)*ConcR.KK+1))) #[ConcR.rd p.stA,ConcR.wr p.stA]/\g'.status = .running/\Runs p.P true p.Ro (Yx p Nx sd) g' (w.setCell p.stA (.int .u64 ((v:Int)*ConcR.KK+1))) O) /\
 (v≠vs->∃g',stepG p.P true g w = .go g' w #[ConcR.rd p.stA]/\g'.status = .running/\Runs p.P true p.Ro M1 g' w O)
def Q5(sd:Array Event)(M1:aR):Prop:=∀g w O,M1 g w O->∀v:Nat,v<2147483648->p.at w ((v:Int)*ConcR.KK) 0->∃g',stepG p.P true g w = .go g' w #[ConcR.rd p.stA]/\g'.status = .running /\
 (v=0->Runs p.P true p.Ro (Js p Nx) g' w O)/\(v≠0->Runs p.P true p.Ro (Uh p Nx sd M1 v) g' w O)
def vZ(M1:aR):aR:=λg w O=>∃g',stepG p.P true g w = .go g' w #[ConcR.mk .disable]/\g'.status = .running/\Runs p.P true p.Ro M1 g' w O
end
end Px
namespace Px
open Go Go.Conc
def Rl(a:Addr)(t:Trace)(j:Nat):Prop:=∃r,ConcN.RelBy a t j r
theorem E9{a:Addr}{t:Trace}{j:Nat}{y:MemOp}(h:Rl a t j)(hy:y.g=j->y.act.touch? = none\/((∀x,y.act.touch? = some x->x.kind = .atomic)/\Deaf t j≠0)):Rl a (t++#[y]) j:=by
 obtain⟨r,h1,I,h3,h4⟩:=h;obtain⟨z,J,hzg⟩:∃z,t[r]? = some z/\z.g=j:=by
  unfold Trace.g? at I;cases J:t[r]? with
  | none=>rw[J] at I;cases I
  | some z=>rw[J] at I;exact⟨z,rfl,by simpa using I⟩
 have hr:=(Array.getElem?_eq_some_iff.1 J).1;have M:(t++#[y])[r]? = some z:=by rw[Array.getElem?_append_left hr];exact J
 refine⟨r,?_,?_,?_,λi hi Z=>?_⟩
 ·unfold Trace.act? at h1 ⊢;rw[M];rw[J] at h1;exact h1
 ·unfold Trace.g? at I ⊢;rw[M];rw[J] at I;exact I
 ·obtain⟨g,e,U⟩:=h3;exact⟨g,by unfold Trace.g? at e ⊢;rw[M];rw[J] at e;exact e,by rw[deaf_old (le_of_lt hr)];exact U⟩
 ·rintro⟨x,hx,hm,hk⟩;obtain⟨op,ho,H⟩:=touch_of hx;rcases getElem?_append_cases ho with⟨ύ,ho'⟩|⟨Ĉ,ό⟩
  ·refine h4 i hi (by unfold Trace.g? at Z ⊢;rw[ho'] ;rw[ho] at Z;exact Z) ⟨x,by rw[act?_of ho'];exact H,hm,hk.imp id λ⟨g,e,U⟩=>⟨g,by unfold Trace.g? at e ⊢;rw[ho'];rw[ho] at e;exact e,by rw[<-U];exact (deaf_old (le_of_lt ύ)).symm⟩⟩
  ·simp only[mem_toArray,mem_cons,not_mem_nil,or_false] at ό;subst ό;have hi':i=t.size:=by
    have:=(Array.getElem?_eq_some_iff.1 ho).1;simp at this;omega
   subst hi';have hg':op.g=j:=by unfold Trace.g? at Z;rw[ho] at Z;simpa using Z
   rcases hy hg' with h0|⟨h0,hd⟩
   ·rw[h0] at H;cases H
   ·rcases hk with hk|⟨g,e,U⟩
    ·exact hk (h0 x H)
    ·unfold Trace.g? at e;rw[ho] at e;simp only[Option.map_some,Option.some.injEq] at e;rw[<-e,hg',deaf_old (le_refl _)] at U;exact hd U
theorem O7{a:Addr}{j:Nat}:∀(l:List MemOp) {t:Trace},Rl a t j->(∀op∈l,op.g=j->op.act.touch? = none)->Rl a (t++l.toArray) j
 | [],t,h,_=>by simpa using h
 | y::l,t,h,hl=>by
  have:=O7 l (E9 h λe=>.inl (hl y (mem_cons_self ..) e)) λop H=>hl op (mem_cons_of_mem _ H)
  rw[Array.append_assoc] at this;simpa using this
theorem Jt{a:Addr}{j:Nat}{t u:Trace}(h:Rl a t j)(e:∀op∈u,op.g=j->op.act.touch? = none):Rl a (t++u) j:=by
 have:=O7 (a:=a) u.toList h λop H=>e op (Array.mem_toList_iff.1 H)
 simpa using this
theorem Ui{a:Addr}{t:Trace}{j:Nat}{y:MemOp}(h:Rl a t j)(hj:j≠0)(hn:NoRelease a t)(hd:Deaf t 0=0)(I:y.g=0/\y.act = .mark (.acquire a)):HO (t++#[y]) j:=by
 obtain⟨r,h1,h2,h3,h4⟩:=E9 h (y:=y) λe=>absurd (e.symm.trans I.1) hj
 have H:(t++#[y])[t.size]? = some y:=by rw[Array.getElem?_append_right (le_refl _)];simp
 have U:r<t.size:=by
  unfold Trace.act? at h1;cases M:(t++#[y])[r]? with
  | none=>rw[M] at h1;cases h1
  | some z=>
   have J:=(Array.getElem?_eq_some_iff.1 M).1;simp at J;rcases lt_or_ge r t.size with h|h
   ·exact h
   ·have:r=t.size:=bB;subst this;rw[H] at M;cases M;rw[H] at h1;simp[I.2] at h1
 intro i Z hc;have hi:i<=r:=Nat.le_of_not_lt λJ=>h4 i J Z hc
 have e:HappensBefore (t++#[y]) r t.size:=.single (.inr ⟨.marked U (.inr h1) (by rw[act?_of H,I.2]) λk ϓ Ϯ e=>?_,h3,⟨0,by unfold Trace.g?;rw[H];simp[I.1],by rw[deaf_old (le_refl _)];exact hd⟩⟩)
 ·refine⟨t.size,y,H,I.1,.inr ?_⟩;rcases lt_or_ge i r with J|Ĉ
  ·exact (Relation.TransGen.single (.inl ⟨J,j,Z,h2⟩)).trans e
  ·have:i=r:=bB;subst this;exact e
 ·refine hn k ?_;unfold Trace.act? at e ⊢;rwa [Array.getElem?_append_left Ϯ] at e
def Still(d:Nat):List Event->Prop
 | []=>True
 | e::es=>((MemAct.ofEvent e).touch? = none\/((∀x,(MemAct.ofEvent e).touch? = some x->x.kind = .atomic)/\d≠0))/\Still (deafBehind d #[e]) es
theorem Gg{a:Addr}{j:Nat}{fn:FuncId}{pos:String}:∀(es:List Event) {t:Trace},Rl a t j->Still (Deaf t j) es->Rl a (t++(es.map λe=>(⟨j,fn,pos,MemAct.ofEvent e⟩:MemOp)).toArray) j
 | [],t,h,_=>by simpa using h
 | e::es,t,h,hs=>by
  have h1:=E9 h (y:=⟨j,fn,pos,MemAct.ofEvent e⟩) λ_=>hs.1
  have H:Deaf (t++#[⟨j,fn,pos,MemAct.ofEvent e⟩]) j=deafBehind (Deaf t j) #[e]:=by
   have:=Deaf_own t j fn pos #[e];simpa [MemOp.ofEvents] using this
  have:=Gg (fn:=fn) (pos:=pos) es h1 (by rw[H];exact hs.2);rw[Array.append_assoc] at this;simpa using this
end Px
namespace Px
open Go Go.Conc
noncomputable def Gp.dg(p:Gp)(Sw:Nat->Prop)(h0:Nat->Option Obj)(J0 N:Nat)(sg:Nat->Nat)(M:aR)(jK:aR)(dm:Nat):Dg where
 P:=p.P
 Sw:=Sw
 Ro:=p.Ro
 h0:=h0
 D:=λj=>if j=0 then dm else if 4<=sg j then 1 else 0
 L:=λj=>j=0\/(J0<=j/\j<N/\sg j<=7)
 st:=λj=>if j=0 then M else λg _ _=>sg j=0/\qc p g
 qt:=λj g=>match sg j with
  | 1=>BR p g
  | 2=>AtR0 p g
  | 3=>AtK1 p g
  | 4=>AtD1 p g
  | 5=>AtD2 p g
  | 6=>AtD3 p g
  | 7=>AtD4 p g
  | _=>False
 iw:=λj g w O=>if j=0 then jK g w O else sg j=0/\qc p g
 T:=λj t=>if J0<=j then 3<=sg j->Rl p.stA t j else HO t j
theorem Gp.ny(p:Gp){Sw:Nat->Prop}{h0:Nat->Option Obj}{J0 N:Nat}{sg:Nat->Nat}{M:aR}{jK:aR}{dm:Nat}:(p.dg Sw h0 J0 N sg M jK dm).Ok where
 tr:=λj t u h H=>by
  show if J0<=j then 3<=sg j->Rl p.stA (t++u) j else HO (t++u) j
  have h:if J0<=j then 3<=sg j->Rl p.stA t j else HO t j:=h
  split at h
  ·rename_i e;rw[if_pos e];exact λI=>Jt (h I) H
  ·rename_i e;rw[if_neg e];exact h.app H
theorem Uj{q:Dg}{gs:Array Goroutine}{W:World}{t:Trace}{rl:List bW}(h:GD q gs W t rl){j:Nat}(J:j≠0)(H:j<gs.size)(hl:q.L j):∃(i:Nat) (g:Goroutine),gs[i]? = some g/\g.status = .running:=by
 obtain⟨r,hr⟩:∃r,rl[j]? = some r:=⟨rl[j]'(by rw[h.len];exact H),eO⟩;have I:=h.fit j r gs[j] hr (by simp[H]);refine⟨j,gs[j],by simp[H],?_⟩;match r,I with
 | .run ..,⟨_,_,_,_,e,_⟩=>exact e
 | .idle ..,⟨_,e,h5,_⟩=>
  rcases e with e|e
  ·rw[e];exact h5.resolve_right λh=>J h.1
  ·rw[e]
 | .quit _,⟨_,_,e⟩=>exact (e.resolve_left λh=>h.1 hl).2.running
theorem ZT{a:Addr}{t:Trace}{j:Nat}{fn:FuncId}{pos:String}(J:Deaf t j=0):Rl a (t++#[⟨j,fn,pos,.mark (.releaseMerge a)⟩]) j:=by
 have H:(t++#[(⟨j,fn,pos,.mark (.releaseMerge a)⟩:MemOp)])[t.size]? = some ⟨j,fn,pos,.mark (.releaseMerge a)⟩:=by rw[Array.getElem?_append_right (le_refl _)];simp
 refine⟨t.size,by rw[act?_of H],by unfold Trace.g?;rw[H];rfl,⟨j,by unfold Trace.g?;rw[H];rfl,by rw[deaf_old (le_refl _)];exact J⟩,λi M e=>?_⟩;unfold Trace.g? at e;cases I:(t++#[(⟨j,fn,pos,.mark (.releaseMerge a)⟩:MemOp)])[i]? with
 | none=>rw[I] at e;cases e
 | some op=>
  have:=(Array.getElem?_eq_some_iff.1 I).1;simp at this;omega
def upd(sg:Nat->Nat)(j s:Nat):Nat->Nat:=λk=>if k=j then s else sg k
theorem nY(p:Gp){Sw:Nat->Prop}{h0 h1:Nat->Option Obj}{J0 N s:Nat}{sg:Nat->Nat}{M:aR}{jK:aR}{dm:Nat}{gs:Array Goroutine}{W W':World}{t u:Trace}{rl:List bW}(h:GD (p.dg Sw h0 J0 N sg M jK dm) gs W t rl){j q:Nat}{r:bW}{g g':Goroutine}(gw:Goroutine)
  (hj:rl[j]? = some r) (j0:1<=J0) (Z:J0<=j) (hN:j<N) (hs:sg j<=7) (size:W'.heap.size=W.heap.size) (old:∀b,¬ Sw b->W'.heap[b]? = W.heap[b]?) (fx:∀b,Sw b->W'.heap[b]? = h1 b) (hu:∀op∈u,OkG Sw j (λ_=>False) p.Ro op) (Ņ:∀op∈u,Nt Sw op) (ζ:sg j<=s)
  (hd:s<=7->Deaf (t++u) j=if 4<=s then 1 else 0) (hT:3<=s->Rl p.stA (t++u) j) (hq:(7<s/\QuitsD p.P q (Deaf (t++u) j) g')\/(s<=7/\xH p.P ((p.dg Sw h1 J0 N (upd sg j s) M jK dm).qt j) q g')) (jU:W'.os=W.os/\W'.output=W.output:=by exact⟨rfl,rfl⟩) :
  GD (p.dg Sw h1 J0 N (upd sg j s) M jK dm) ((gs.map (Conc.woken p.P g gw W')).setIfInBounds j g') W' (t++u) (rl.set j (.quit q)):=by
 have U:j≠0:=bB;have J:upd sg j s j=s:=if_pos rfl;have I:∀k,k≠j->upd sg j s k=sg k:=λk hk=>if_neg hk
 refine GD.event (p:=p.dg Sw h0 J0 N sg M jK dm) (q:=p.dg Sw h1 J0 N (upd sg j s) M jK dm) (r':=.quit q) p.ny h rfl rfl rfl gw hj (.inr ⟨Z,hN,hs⟩) (λk hk=>?_) (λk hk hl=>?_) (λk hk=>⟨?_,?_,?_,?_⟩) (λk hk hT=>?_) size old fx (λb hb=>hb.elim) hu Ņ (λhl=>?_) ⟨U,?_,?_⟩ jU
 ·rcases hk with hk|⟨h1,e,H⟩
  ·exact .inl hk
  ·refine .inr ⟨h1,e,?_⟩;by_cases ı:k=j
   ·subst ı;exact hs
   ·rwa [I k ı] at H
 ·rcases hl with hl|⟨h1,e,H⟩
  ·exact .inl hl
  ·exact .inr ⟨h1,e,by rw[I k hk];exact H⟩
 ·simp only[Gp.dg,I k hk]
 ·simp only[Gp.dg,I k hk]
 ·simp only[Gp.dg,I k hk]
 ·simp only[Gp.dg,I k hk]
 ·show if J0<=k then 3<=upd sg j s k->Rl p.stA t k else HO t k
  rw[I k hk];exact hT
 ·rcases hl with hl|⟨_,_,hl⟩
  ·exact absurd hl U
  ·rw[J] at hl;rw[hd hl];simp only[Gp.dg,if_neg U,J]
 ·show if J0<=j then 3<=upd sg j s j->Rl p.stA (t++u) j else HO (t++u) j
  rw[if_pos Z,J];exact hT
 ·rcases hq with⟨h1,e⟩|⟨h1,e⟩
  ·refine .inl ⟨?_,e⟩;rintro (H|⟨_,_,H⟩)
   ·exact U H
   ·rw[J] at H;omega
  ·exact .inr ⟨.inr ⟨Z,hN,by rw[J];exact h1⟩,e⟩
end Px
namespace Px
open Go Go.Conc
section
variable (p:Gp) {Sw:Nat->Prop} {h0:Nat->Option Obj} {J0 N:Nat} {sg:Nat->Nat} {M:aR} {jK:aR} {dm:Nat} {gs:Array Goroutine} {W:World} {t:Trace} {rl:List bW} {Q:Machine->Outcome->World->Trace->Prop}
theorem oJ{j:Nat}{fn:FuncId}{pos:String}{e:Event}:MemOp.ofEvents j fn pos #[e]=#[⟨j,fn,pos,MemAct.ofEvent e⟩]:=by simp[MemOp.ofEvents]
theorem Dq{j:Nat}{g g':Goroutine}{W':World}{es:Array Event}{d:Nat}{sl:Option (Nat×Nat)}(H:j≠0)(e:gs[j]? = some g)(I:stepG p.P false g (W.at d) = .go g' W' es)(hS:gK p.P Q ((gs.map (Conc.woken p.P g g' W')).setIfInBounds j g') W' (t++MemOp.ofEvents j g.frame.fn g.frame.place es)):iQ p.P Q gs W t j d sl:=
 .inl ⟨_,_,_,runT_crowd_go e (by rw[beq_eq_false_iff_ne.2 H];exact I),hS⟩
variable {p}
theorem aeA(h:GD (p.dg Sw h0 J0 N sg M jK dm) gs W t rl)(j0:1<=J0){j:Nat}{g:Goroutine}(H:J0<=j)(I:j<N)(hs:sg j=1){q0:Nat}(hj:rl[j]? = some (.quit q0))(hg:gs[j]? = some g)(hq:BR p g){Z U:Int}(ϯ:p.at W Z U)(nx:∀gs' W' t' rl',GD (p.dg Sw h0 J0 N (upd sg j 2) M jK dm) gs' W' t' rl'->gs'.size=gs.size->gK p.P Q gs' W' t')(d:Nat)(sl:Option (Nat×Nat)):iQ p.P Q gs W t j d sl:=by
 have ϧ:j≠0:=bB;have J:=h.at p.ny d;have hl:(p.dg Sw h0 J0 N sg M jK dm).L j:=.inr ⟨H,I,bB⟩;obtain⟨g',e1,q,e2⟩:=hq (W.at d) Z U ϯ
 have ops:∀op∈MemOp.ofEvents j g.frame.fn g.frame.place #[],False:=by
  intro op e;rw[show MemOp.ofEvents j g.frame.fn g.frame.place #[]=#[] by simp[MemOp.ofEvents]] at e;simp at e
 refine Dq p ϧ hg e1 (nx _ _ _ _ (nY p (s:=2) (q:=q) J g' hj j0 H I bB rfl (λ_ _=>rfl) J.fx (λop e=>(ops op e).elim) (λop e=>(ops op e).elim) bB ?_ (λh=>bB) (.inr ⟨bB,by simpa only [Gp.dg,upd,if_true] using e2⟩)) eO);intro _;rw[Deaf_own,h.wi.deaf j hl];simp[Gp.dg,ϧ,hs,deafBehind]
theorem aeB(h:GD (p.dg Sw h0 J0 N sg M jK dm) gs W t rl)(j0:1<=J0){j:Nat}{g:Goroutine}(I:J0<=j)(J:j<N)(Z:sg j=2){q0:Nat}(hj:rl[j]? = some (.quit q0))(hg:gs[j]? = some g)(hq:AtR0 p g)(nx:∀gs' W' t' rl',GD (p.dg Sw h0 J0 N (upd sg j 3) M jK dm) gs' W' t' rl'->gs'.size=gs.size->gK p.P Q gs' W' t')(d:Nat)(sl:Option (Nat×Nat)):iQ p.P Q gs W t j d sl:=by
 have H:j≠0:=bB;have U:=h.at p.ny d;have hl:(p.dg Sw h0 J0 N sg M jK dm).L j:=.inr ⟨I,J,bB⟩;obtain⟨g',e1,q,e2⟩:=hq (W.at d);refine Dq p H hg e1 (nx _ _ _ _ (nY p (s:=3) (q:=q) U g' hj j0 I J bB rfl (λ_ _=>rfl) U.fx ?_ ?_ bB ?_ ?_ ?_) eO)
 ·intro op e;rw[oJ] at e;simp only[mem_toArray,mem_cons,not_mem_nil,or_false] at e;subst e;exact⟨rfl,λx hx=>by cases hx⟩
 ·intro op e;rw[oJ] at e;simp only[mem_toArray,mem_cons,not_mem_nil,or_false] at e;subst e;exact .none (λa h=>by cases h) rfl
 ·intro _;rw[Deaf_own,h.wi.deaf j hl];simp[Gp.dg,H,Z,deafBehind,ConcR.mk]
 ·intro _;rw[oJ];refine ZT ?_;rw[h.wi.deaf j hl];simp[Gp.dg,H,Z]
 ·exact .inr ⟨bB,by simpa only [Gp.dg,upd,if_true] using e2⟩
theorem aeC(h:GD (p.dg Sw h0 J0 N sg M jK dm) gs W t rl)(j0:1<=J0){j:Nat}{g:Goroutine}(H:J0<=j)(U:j<N)(hs:sg j=3){q0:Nat}(hj:rl[j]? = some (.quit q0))(Z:gs[j]? = some g)(hq:AtK1 p g)(nx:∀gs' W' t' rl',GD (p.dg Sw h0 J0 N (upd sg j 4) M jK dm) gs' W' t' rl'->gs'.size=gs.size->gK p.P Q gs' W' t')(d:Nat)(sl:Option (Nat×Nat)):iQ p.P Q gs W t j d sl:=by
 have ϧ:j≠0:=bB;have J:=h.at p.ny d;obtain⟨_,I,_⟩:=J.fit j _ g hj Z;have hl:(p.dg Sw h0 J0 N sg M jK dm).L j:=.inr ⟨H,U,bB⟩;have I:Rl p.stA t j:=by
  have:if J0<=j then 3<=sg j->Rl p.stA t j else HO t j:=I
  rw[if_pos H] at this;exact this bB
 obtain⟨g',e1,q,e2⟩:=hq (W.at d);have ops:∀op∈MemOp.ofEvents j g.frame.fn g.frame.place #[ConcR.mk .disable],op.g=j/\op.act.touch? = none/\∀a,op.act ≠ .mark (.release a):=by
  intro op e;rw[oJ] at e;simp only[mem_toArray,mem_cons,not_mem_nil,or_false] at e;subst e;exact⟨rfl,rfl,λa h=>by cases h⟩
 refine Dq p ϧ Z e1 (nx _ _ _ _ (nY p (s:=4) (q:=q) J g' hj j0 H U bB rfl (λ_ _=>rfl) J.fx (λop e=>⟨(ops op e).1,λx hx=>by rw[(ops op e).2.1] at hx;cases hx⟩) (λop e=>.none (ops op e).2.2 (ops op e).2.1) bB ?_ ?_ ?_) eO)
 ·intro _;rw[Deaf_own,h.wi.deaf j hl];simp[Gp.dg,ϧ,hs,deafBehind,ConcR.mk]
 ·intro _;exact Jt I λop e _=>(ops op e).2.1
 ·exact .inr ⟨bB,by simpa only [Gp.dg,upd,if_true] using e2⟩
theorem Gh(h:GD (p.dg Sw h0 J0 N sg M jK dm) gs W t rl)(j0:1<=J0)(ϣ:Sw p.Wg){j s q:Nat}{g g':Goroutine}{W':World}{es:Array Event}(hJ:J0<=j)(hN:j<N)(hs:4<=sg j)(hs6:sg j<=7){q0:Nat}(hj:rl[j]? = some (.quit q0))(hg:gs[j]? = some g)(d:Nat)(sl:Option (Nat×Nat))(e1:stepG p.P false g (W.at d) = .go g' W' es)
  (size:W'.heap.size=W.heap.size) (old:∀b,b≠p.Wg->W'.heap[b]? = W.heap[b]?) (ĸ:∀e,e∈es->(∃(a:Addr) (w:Bool),a.block=p.Wg/\e=⟨.cell a,w,true⟩)\/e=ConcR.mk .disable\/e=ConcR.mk .enable) (still:Still 1 es.toList) (hd1:deafBehind 1 es=1) (ζ:sg j<=s)
  (hq:(7<s/\QuitsD p.P q 1 g')\/(s<=7/\xH p.P ((p.dg Sw (λb=>W'.heap[b]?) J0 N (upd sg j s) M jK dm).qt j) q g')) (nx:∀gs' t' rl',GD (p.dg Sw (λb=>W'.heap[b]?) J0 N (upd sg j s) M jK dm) gs' W' t' rl'->gs'.size=gs.size->gs'[0]? = gs[0]?.map (Conc.woken p.P g g' W')->rl'[0]? = rl[0]? -> gK p.P Q gs' W' t') (jU:W'.os=W.os/\W'.output=W.output:=by exact⟨rfl,rfl⟩):iQ p.P Q gs W t j d sl:=by
 have Z:j≠0:=bB;have hW:=h.at p.ny d;obtain⟨_,U,_⟩:=hW.fit j _ g hj hg;have hl:(p.dg Sw h0 J0 N sg M jK dm).L j:=.inr ⟨hJ,hN,bB⟩;have U:Rl p.stA t j:=by
  have:if J0<=j then 3<=sg j->Rl p.stA t j else HO t j:=U
  rw[if_pos hJ] at this;exact this bB
 have dj:Deaf t j=1:=by
  rw[h.wi.deaf j hl];simp[Gp.dg,Z,hs]
 have ops:∀op∈MemOp.ofEvents j g.frame.fn g.frame.place es,∃e∈es,op=⟨j,g.frame.fn,g.frame.place,MemAct.ofEvent e⟩:=by
  intro op H;unfold MemOp.ofEvents at H;split at H
  ·simp at H
  ·obtain⟨e,he,rfl⟩:=Array.mem_map.1 H;exact⟨e,he,rfl⟩
 have dd:Deaf (t++MemOp.ofEvents j g.frame.fn g.frame.place es) j=1:=by rw[Deaf_own,dj,hd1]
 refine Dq p Z hg e1 (nx _ _ _ (nY p (s:=s) (q:=q) hW g' hj j0 hJ hN hs6 size (λb I=>old b λe=>I (e ▸ ϣ)) (λ_ _=>rfl) (λop H=>?_) (λop H=>?_) ζ (λh6=>?_) (λ_=>?_) ?_ jU) eO (by rw[cZ Z,Array.getElem?_map]) (List.getElem?_set_ne Z))
 ·obtain⟨e,he,rfl⟩:=ops op H;refine⟨rfl,λx J=>.inl ?_⟩;rcases ĸ e he with⟨b,w,I,rfl⟩|rfl|rfl
  ·cases w<;>(cases J;exact⟨⟨_,rfl,by rw[I];exact ϣ⟩,(λh=>by cases h),(λh=>by cases h)⟩)
  ·cases J
  ·cases J
 ·obtain⟨e,he,rfl⟩:=ops op H;rcases ĸ e he with⟨b,w,I,rfl⟩|rfl|rfl
  ·refine⟨λa=>?_,λx J=>.inl ?_⟩
   ·cases w<;>exact λh=>by cases h
   ·cases w<;>(cases J;exact⟨_,rfl,by rw[I];exact ϣ⟩)
  ·exact .none (λa h=>by cases h) rfl
  ·exact .none (λa h=>by cases h) rfl
 ·rw[dd,if_pos bB]
 ·have:=Gg (fn:=g.frame.fn) (pos:=g.frame.place) es.toList U (by rw[dj];exact still);unfold MemOp.ofEvents;split
  ·rw[Array.append_empty];exact U
  ·have e:es.map (λe=>(⟨j,g.frame.fn,g.frame.place,MemAct.ofEvent e⟩:MemOp))=(es.toList.map λe=>(⟨j,g.frame.fn,g.frame.place,MemAct.ofEvent e⟩:MemOp)).toArray:=by apply Array.toList_inj.1;rw[Array.toList_map]
   rw[e];exact this
 ·rw[dd];exact hq
theorem ZU(h:GD (p.dg Sw h0 J0 N sg M jK dm) gs W t rl)(χ:∀g w O,jK g w O->g.offers=none)(j0:1<=J0){j s:Nat}{r:bW}{g:Goroutine}(hJ:J0<=j)(hN:j<N)(hs:sg j=0)(hj:rl[j]? = some r)(hg:gs[j]? = some g)(hr:g.status = .running)(ó:LJ (p.dg Sw h0 J0 N sg M jK dm) rl j g)(í:Shut W p.cn s)
  (nx:∀gs' W' t' rl',W'.heap=W.heap->GD (p.dg Sw h0 J0 N (upd sg j 1) M jK dm) gs' W' t' rl'->gs'.size=gs.size->gK p.P Q gs' W' t') (d:Nat) (sl:Option (Nat×Nat)):iQ p.P Q gs W t j d sl:=by
 have ϧ:j≠0:=bB;have ύ:=(Array.getElem?_eq_some_iff.1 hg).1;have hl:(p.dg Sw h0 J0 N sg M jK dm).L j:=.inr ⟨hJ,hN,bB⟩;have hA:qc p g:=by
  have hf:=h.fit j r g hj hg;rcases ó with⟨m,g0,w0,O,e,Ϗ⟩|⟨g0,w0,O,e⟩|⟨_,_,this⟩
  ·rw[hj] at e;cases e;obtain⟨_,_,_,rfl,_,_,hk⟩:=hf;have:(if j=0 then M else λg _ _=>sg j=0/\qc p g) g W O:=Ϗ W hk;rw[if_neg ϧ] at this;exact this.2
  ·rw[hj] at e;cases e;obtain⟨_,U,hgs,_,I⟩:=hf;have I:if j=0 then jK g0 w0 O else sg j=0/\qc p g0:=I
   rw[if_neg ϧ] at I;have ϳ:=hgs.resolve_right λh=>ϧ h.1
   rcases U with rfl|rfl
   ·exact I.2
   ·have:({ g0 with status:=.running }:Goroutine)=g0:=by
     obtain⟨a,b,c,d,e⟩:=g0;dsimp only at ϳ;subst ϳ;rfl
    rw[this];exact I.2
  ·have:match sg j with|1=>BR p g|2=>AtR0 p g|3=>AtK1 p g|4=>AtD1 p g|5=>AtD2 p g|6=>AtD3 p g|7=>AtD4 p g|_=>False:=this
   rw[hs] at this;exact this.elim
 have hp:partners (gs.setIfInBounds j ph) p.cn true = []:=by
  apply eq_nil_iff_forall_not_mem.2;rintro⟨hh,hk⟩ hm;obtain⟨ϝ,x,cs,sh,c,U,Z,ho,_⟩:=uQ ύ hm;obtain⟨Ç,_⟩:=Array.getElem?_eq_some_iff.1 U;obtain⟨r',hr'⟩:∃r',rl[hh]? = some r':=⟨rl[hh]'(by rw[h.len];exact Ç),eO⟩;have hf:=h.fit hh r' x hr' U;match r',hf with
  | .run ..,⟨_,_,_,_,h4,_⟩=>rw[Z] at h4;cases h4
  | .idle g0 w0 O0,⟨_,h4,h5,_,I⟩=>
   rcases h4 with rfl|rfl
   ·rcases h5 with h5|⟨rfl,_⟩
    ·rw[Z] at h5;cases h5
    ·have I:if (0:Nat)=0 then jK x w0 O0 else sg 0=0/\qc p x:=I
     rw[if_pos rfl] at I;rw[χ x _ _ I] at ho;cases ho
   ·cases Z
  | .quit _,⟨_,_,h4⟩=>
   rcases h4 with⟨_,h4⟩|⟨_,h4⟩
   ·rcases j3 h4 with h|h<;>(rw[Z] at h;cases h)
   ·rw[h4.running] at Z;cases Z
 obtain⟨H,e1,q,e2⟩:=hA (W.at d);have hm:=beq_eq_false_iff_ne.2 ϧ;obtain⟨d',ec⟩:=Oh (P:=p.P) (gs:=gs.setIfInBounds j ph) (i:=j) (g:=H) (c:=⟨.chan (some p.cn),none,p.eR⟩) (shape:=.recv true) (w:=W.at d) (sl:=sl) (s:=s) rfl rfl í hp;refine .inl ⟨_,_,_,(xE hg (by rw[hm];exact e1)).trans ec,?_⟩;rw[set_set];have hW:=(h.at p.ny d).at p.ny d';have u1:∀op∈(#[⟨j,H.frame.fn,H.frame.place,.recvClosed p.cn⟩]:Trace),op.g=j/\op.act.touch? = none/\(op.act ≠ .mark .disable/\op.act ≠ .mark .enable)/\∀a,op.act ≠ .mark (.release a):=by
  intro op J;simp only[mem_toArray,mem_cons,not_mem_nil,or_false] at J;subst J;exact⟨rfl,rfl,⟨(λh=>by cases h),(λh=>by cases h)⟩,λa h=>by cases h⟩
 have key:=nY p (s:=1) (q:=q) (u:=#[⟨j,H.frame.fn,H.frame.place,.recvClosed p.cn⟩]) (g:=H) (g':=H.finishComm p.P #[⟨.chan (some p.cn),none,p.eR⟩] (.recv true) (0:Nat) p.eR false) hW { H with status:=.blocked } hj j0 hJ hN bB rfl (λ_ _=>rfl) hW.fx
  (λop J=>⟨(u1 op J).1,λx U=>by rw[(u1 op J).2.1] at U;cases U⟩) (λop J=>.none (u1 op J).2.2.2 (u1 op J).2.1) bB (λ_=>by
   rw[ConcN.Deaf_still t j _ λop J=>(u1 op J).2.2.1,h.wi.deaf j hl];simp[Gp.dg,ϧ,hs]) (λh=>bB) (.inr ⟨bB,by simpa only [Gp.dg,upd,if_true] using e2⟩)
 have hmap:gs.map (Conc.woken p.P H { H with status:=.blocked } ((W.at d).at d'))=gs:=by
  apply Array.ext_getElem?;intro k;rw[Array.getElem?_map];cases gs[k]? with
  | none=>rfl
  | some x=>simp[Conc.woken]
 rw[hmap] at key;exact nx _ _ _ _ rfl key eO
end
end Px
namespace Px
open Go Go.Conc
section
variable {p:Gp} {Sw:Nat->Prop} {h0 h1:Nat->Option Obj} {J0 N:Nat} {sg:Nat->Nat} {M M':aR} {jK Gi:aR} {dm jQ:Nat} {gs:Array Goroutine} {W W':World} {t u:Trace} {rl:List bW} {Q:Machine->Outcome->World->Trace->Prop}
theorem zT(h:GD (p.dg Sw h0 J0 N sg M jK dm) gs W t rl){r r':bW}{g g':Goroutine}(I:Goroutine)(Z:rl[0]? = some r)(size:W'.heap.size=W.heap.size)(H:∀b,¬ Sw b->W'.heap[b]? = W.heap[b]?)(J:∀b,Sw b->W'.heap[b]? = h1 b)(own:∀b,r'.own b->r.own b)
  (hu:∀op∈u,OkG Sw 0 r'.own p.Ro op) (Ņ:∀op∈u,Nt Sw op) (U:Deaf (t++u) 0=jQ) (e:l9 (p.dg Sw h1 J0 N sg M' Gi jQ) 0 r' g' W' (t++u)) (jU:W'.os=W.os/\W'.output=W.output:=by exact⟨rfl,rfl⟩) :
  GD (p.dg Sw h1 J0 N sg M' Gi jQ) ((gs.map (Conc.woken p.P g I W')).setIfInBounds 0 g') W' (t++u) (rl.set 0 r'):=
 GD.event (p:=p.dg Sw h0 J0 N sg M jK dm) (q:=p.dg Sw h1 J0 N sg M' Gi jQ) p.ny h rfl rfl rfl I Z (.inl rfl) (λ_ h=>h) (λ_ _ h=>h) (λk hk=>⟨by simp only[Gp.dg,if_neg hk],rfl,by simp only[Gp.dg,if_neg hk],by simp only[Gp.dg,if_neg hk]⟩) (λ_ _ h=>h) size H J own hu Ņ (λ_=>by rw[U];simp[Gp.dg]) e jU
theorem ZV(h:GD (p.dg Sw h0 J0 N sg M jK dm) gs W t rl)(ϣ:Sw p.Wg){r:bW}{g g':Goroutine}{W':World}{O:Nat->Prop}{es:Array Event}(hj:rl[0]? = some r)(hO:r.own=O)(hg:gs[0]? = some g)(d:Nat)(sl:Option (Nat×Nat))(e1:stepG p.P true g (W.at d) = .go g' W' es)
  (size:W'.heap.size=W.heap.size) (U:∀b,b≠p.Wg->W'.heap[b]? = W.heap[b]?) (J:∀e,e∈es->(∀x,(MemAct.ofEvent e).touch? = some x->tN Sw x.loc/\x.kind ≠ .plain)/\∀a,MemAct.ofEvent e ≠ .mark (.release a)) (hd:deafBehind dm es=jQ) (hr:g'.status = .running) (hR:Runs p.P true p.Ro M' g' W' O)
  (nx:∀gs' t' rl',GD (p.dg Sw (λb=>W'.heap[b]?) J0 N sg M' Gi jQ) gs' W' t' rl'->gs'.size=gs.size->(∃gw,gs'[0]? = some gw)->gK p.P Q gs' W' t') (jU:W'.os=W.os/\W'.output=W.output:=by exact⟨rfl,rfl⟩):iQ p.P Q gs W t 0 d sl:=by
 have hW:=h.at p.ny d;have ops:∀op∈MemOp.ofEvents 0 g.frame.fn g.frame.place es,∃e∈es,op=⟨0,g.frame.fn,g.frame.place,MemAct.ofEvent e⟩:=by
  intro op H;unfold MemOp.ofEvents at H;split at H
  ·simp at H
  ·obtain⟨e,he,rfl⟩:=Array.mem_map.1 H;exact⟨e,he,rfl⟩
 have Z:Deaf t 0=dm:=(h.wi.deaf 0 (.inl rfl)).trans (by simp[Gp.dg]);refine .inl ⟨_,_,_,runT_crowd_go hg e1,nx _ _ _ (zT hW (g:=g) (g':=g') (r':=.run true M' g' W' O) (M':=M') (Gi:=Gi) (jQ:=jQ) g' hj size (λb hb=>U b λe=>hb (e ▸ ϣ)) (λ_ _=>rfl) (λ_ h=>hO ▸ h) (λop H=>?_) (λop H=>?_) ?_ ?_ jU) eO ?_⟩
 ·obtain⟨e,he,rfl⟩:=ops op H;exact⟨rfl,λx I=>.inl ⟨((J e he).1 x I).1,((J e he).1 x I).2,λ_=>rfl⟩⟩
 ·obtain⟨e,he,rfl⟩:=ops op H;exact⟨(J e he).2,λx I=>.inl ((J e he).1 x I).1⟩
 ·rw[Deaf_own,Z,hd]
 ·exact⟨.inl rfl,rfl,by simp only[Gp.dg,if_true],rfl,hr,hR,.refl ..⟩
 ·exact⟨g',get_set_same (by simpa using h.pos) _⟩
end
end Px
namespace Px
open Go Go.Conc
theorem BU{p:Gp}{w:World}{J H:Int}(h:p.at w J H)(v:Int):p.at (w.setCell p.stA (.int .u64 v)) v H/\(w.setCell p.stA (.int .u64 v)).heap.size=w.heap.size/\∀b,b≠p.Wg->(w.setCell p.stA (.int .u64 v)).heap[b]? = w.heap[b]?:=by
 unfold Gp.at ConcR.WgAt ConcR.wgBlock at h ⊢;have M:=(Array.getElem?_eq_some_iff.1 h).1;have e:∀b:Nat,(w.setCell p.stA (.int .u64 v)).heap[b]? = (w.heap.modify p.Wg λx=>match x with | .cells c elem frozen=>.cells (c.setIfInBounds 0 (.int .u64 v)) elem frozen|o=>o)[b]?:=λb=>by simp[World.setCell,Gp.stA,ConcR.stA];rfl
 refine⟨?_,?_,λb I=>?_⟩
 ·rw[e,Array.getElem?_modify,if_pos rfl,h];simp
 ·simp[World.setCell]
 ·rw[e,Array.getElem?_modify,if_neg (Ne.symm I)]
theorem LM{p:Gp}{w:World}{H J:Int}(h:p.at w H J)(v:Int):p.at (w.setCell p.smA (.int .u32 v)) H v/\(w.setCell p.smA (.int .u32 v)).heap.size=w.heap.size/\∀b,b≠p.Wg->(w.setCell p.smA (.int .u32 v)).heap[b]? = w.heap[b]?:=by
 unfold Gp.at ConcR.WgAt ConcR.wgBlock at h ⊢;have M:=(Array.getElem?_eq_some_iff.1 h).1;have e:∀b:Nat,(w.setCell p.smA (.int .u32 v)).heap[b]? = (w.heap.modify p.Wg λx=>match x with | .cells c elem frozen=>.cells (c.setIfInBounds 1 (.int .u32 v)) elem frozen|o=>o)[b]?:=λb=>by simp[World.setCell,Gp.smA,ConcR.smA];rfl
 refine⟨?_,?_,λb I=>?_⟩
 ·rw[e,Array.getElem?_modify,if_pos rfl,h];simp
 ·simp[World.setCell]
 ·rw[e,Array.getElem?_modify,if_neg (Ne.symm I)]
end Px
namespace Px
open Go Go.Conc
def lu(f:Nat->Nat):Nat->Nat
 | 0=>0
 | n+1=>lu f n+f n
theorem BX{f f':Nat->Nat}:∀N,(∀k,k<N->f k=f' k)->lu f N=lu f' N
 | 0,_=>rfl
 | n+1,h=>by
  simp only[lu];rw[BX n λk hk=>h k bB,h n bB]
theorem Fa{f f':Nat->Nat}{j:Nat}(h:∀k,k≠j->f k=f' k):∀N,j<N->lu f N+f' j=lu f' N+f j
 | n+1,hj=>by
  simp only[lu];by_cases e:j=n
  ·subst e;have:=BX (f:=f) (f':=f') j λk hk=>h k bB
   omega
  ·have:=Fa h n bB;have:=h n (λH=>e H.symm);omega
theorem O8{f:Nat->Nat}(h:∀k,f k<=1):∀N,lu f N<=N
 | 0=>le_refl _
 | n+1=>by
  simp only[lu];have:=O8 h n;have:=h n;omega
theorem LP{f:Nat->Nat}{j:Nat}:∀N,j<N->f j<=lu f N
 | n+1,hj=>by
  simp only[lu];by_cases e:j=n
  ·subst e;omega
  ·have:=LP (f:=f) n (by omega:j<n);omega
theorem Ju{f:Nat->Nat}:∀N,(∀k,k<N->f k=0)->lu f N=0
 | 0,_=>rfl
 | n+1,h=>by
  simp only[lu];rw[Ju n λk hk=>h k bB,h n bB]
def cnt(sg:Nat->Nat)(J0 N:Nat):Nat:=lu (λj=>if J0<=j/\sg j<=4 then 1 else 0) N
def tot(sg:Nat->Nat)(J0 N:Nat):Nat:=lu (λj=>if J0<=j then 8-sg j else 0) N
section
variable {sg:Nat->Nat} {J0 N j s:Nat}
theorem ZW(e:J0<=j)(H:j<N)(h:sg j<s)(I:s<=8):tot (upd sg j s) J0 N<tot sg J0 N:=by
 have:=Fa (f:=λk=>if J0<=k then 8-sg k else 0) (f':=λk=>if J0<=k then 8-upd sg j s k else 0) (j:=j) (λk hk=>by simp only[upd,if_neg hk]) N H;simp only[e,if_true,upd] at this;show lu (λk=>if J0<=k then 8-upd sg j s k else 0) N<lu _ N;simp only[upd];omega
theorem WM(e:j<N)(h:sg j<=4↔s<=4):cnt (upd sg j s) J0 N=cnt sg J0 N:=by
 refine BX N λk _=>?_
 by_cases hk:k=j
 ·subst hk;simp only[upd,if_true,h]
 ·simp only[upd,if_neg hk]
theorem ZX(e:J0<=j)(H:j<N)(h:sg j<=4)(I:4<s):cnt (upd sg j s) J0 N+1=cnt sg J0 N:=by
 have:=Fa (f:=λk=>if J0<=k/\sg k<=4 then 1 else 0) (f':=λk=>if J0<=k/\upd sg j s k<=4 then 1 else 0) (j:=j) (λk hk=>by simp only[upd,if_neg hk]) N H;simp only[upd,if_true,e,h,true_and] at this;rw[if_neg bB] at this;show lu (λk=>if J0<=k/\upd sg j s k<=4 then 1 else 0) N+1=lu _ N;simp only[upd];omega
theorem Uk:cnt sg J0 N<=N:=O8 (λk=>by split<;>omega) N
theorem O9(e:J0<=j)(H:j<N)(h:sg j<=4):1<=cnt sg J0 N:=by
 have:=LP (f:=λk=>if J0<=k/\sg k<=4 then 1 else 0) N H;simp only[e,h,true_and,if_true] at this;exact this
theorem LQ(h:∀k,J0<=k->k<N->4<sg k):cnt sg J0 N=0:=Ju N λk hk=>by
 rw[if_neg];rintro⟨h1,h2⟩;have:=h k h1 hk;omega
theorem LU(h:cnt sg J0 N=0):∀k,J0<=k->k<N->4<sg k:=by
 intro k h1 H;rcases lt_or_ge 4 (sg k) with e|e
 ·exact e
 ·have:=O9 h1 H e;omega
theorem WO(h:1<=cnt sg J0 N):∃k,J0<=k/\k<N/\sg k<=4:=by
 apply Classical.byContradiction;intro hn;have:=LQ (sg:=sg) (J0:=J0) (N:=N) λk h1 H=>by
  rcases lt_or_ge 4 (sg k) with e|e
  ·exact e
  ·exact absurd ⟨k,h1,H,e⟩ hn
 omega
end
inductive MS|xJ|w1|w2 (vs:Nat)|cb|wb|w3|sl|w4|en|ca|acq
section
variable (p:Gp) (Nx:aR) (sd:Array Event) (M1:aR)
def MS.stop:MS->aR
 | .xJ=>vZ p M1
 | .w1=>M1
 | .w2 vs=>Uh p Nx sd M1 vs
 | .cb=>Yx p Nx sd
 | .wb=>Yw p Nx sd
 | .w3=>LK p Nx
 | .sl=>λ_ _ _=>False
 | .w4=>Yv p Nx
 | .en=>Js p Nx
 | .ca=>O6 p Nx
 | .acq=>BS p Nx
def MS.dm:MS->Nat
 | .xJ=>0
 | .ca=>0
 | .acq=>0
 | _=>1
def MS.iw:MS->aR
 | .sl=>λg w O=>g.status = .blocked/\g.offers=none/\∀w₁,Keep p.Ro O w w₁->LK p Nx { g with status:=.running } w₁ O
 | _=>λ_ _ _=>False
def MS.rank(c:Nat):MS->Nat
 | .xJ=>11
 | .w1=>9
 | .w2 vs=>if vs=c then 8 else 10
 | .cb=>7
 | .wb=>6
 | .w3=>5
 | .sl=>4
 | .w4=>3
 | .en=>2
 | .ca=>1
 | .acq=>0
end
theorem MS.ZY(c:Nat)(m:MS):m.rank c<=11:=by cases m<;>simp only[MS.rank]<;>first|omega|(split<;>omega)
def Gp.sit(p:Gp)(sg:Nat->Nat)(J0 N:Nat)(W:World):MS->Prop
 | .xJ | .w1=>(∀j,J0<=j->j<N->sg j<=4\/sg j=8)/\p.at W ((cnt sg J0 N:Int)*ConcR.KK) 0
 | .w2 vs=>(∀j,J0<=j->j<N->sg j<=4\/sg j=8)/\p.at W ((cnt sg J0 N:Int)*ConcR.KK) 0/\1<=vs
 | .cb | .wb | .w3=>((∀j,J0<=j->j<N->sg j<=4\/sg j=8)/\1<=cnt sg J0 N/\p.at W ((cnt sg J0 N:Int)*ConcR.KK+1) 0)\/∃l,J0<=l/\l<N/\(∀j,J0<=j->j<N->j≠l->sg j=8)/\(((sg l=5\/sg l=6)/\p.at W 1 0)\/(sg l=7/\p.at W 0 0)\/(sg l=8/\p.at W 0 1))
 | .sl=>((∀j,J0<=j->j<N->sg j<=4\/sg j=8)/\1<=cnt sg J0 N/\p.at W ((cnt sg J0 N:Int)*ConcR.KK+1) 0)\/∃l,J0<=l/\l<N/\(∀j,J0<=j->j<N->j≠l->sg j=8)/\(((sg l=5\/sg l=6)/\p.at W 1 0)\/(sg l=7/\p.at W 0 0))
 | .w4 | .en | .ca | .acq=>(∀j,J0<=j->j<N->sg j=8)/\p.at W 0 0
theorem Gp.za{p:Gp}{sg:Nat->Nat}{J0 N:Nat}{W W':World}{m:MS}(h:p.sit sg J0 N W m)(e:W'.heap[p.Wg]? = W.heap[p.Wg]?):p.sit sg J0 N W' m:=by
 have H:∀J I,p.at W J I->p.at W' J I:=λJ I h=>e.trans h
 cases m with
 | xJ|w1=>exact⟨h.1,H _ _ h.2⟩
 | w2=>exact⟨h.1,H _ _ h.2.1,h.2.2⟩
 | cb|wb|w3=>exact h.imp (λh=>⟨h.1,h.2.1,H _ _ h.2.2⟩) λ⟨l,a,b,c,d⟩=>⟨l,a,b,c,d.imp (λh=>⟨h.1,H _ _ h.2⟩) λh=>h.imp (λh=>⟨h.1,H _ _ h.2⟩) λh=>⟨h.1,H _ _ h.2⟩⟩
 | sl=>exact h.imp (λh=>⟨h.1,h.2.1,H _ _ h.2.2⟩) λ⟨l,a,b,c,d⟩=>⟨l,a,b,c,d.imp (λh=>⟨h.1,H _ _ h.2⟩) λh=>⟨h.1,H _ _ h.2⟩⟩
 | w4|en|ca|acq=>exact⟨h.1,H _ _ h.2⟩
end Px
namespace Px
open Go Go.Conc
structure Ctx(p:Gp)(Nx:aR)(sd:Array Event)(M1:aR)(Sw:Nat->Prop)(J0 N:Nat):Prop where
 w1:Q5 p Nx sd M1
 sd1:∀e,e∈sd->(∀x,(MemAct.ofEvent e).touch? = some x->tN Sw x.loc/\x.kind ≠ .plain)/\∀a,MemAct.ofEvent e ≠ .mark (.release a)
 sd2:deafBehind 1 sd=1
 wg:Sw p.Wg
 cn:Sw p.cn
 ne:p.cn≠p.Wg
 j0:1<=J0
 big:N<2147483647
section
variable {p:Gp} {Nx:aR} {sd:Array Event} {M1:aR} {Sw:Nat->Prop} {h0:Nat->Option Obj} {J0 N:Nat} {sg:Nat->Nat} {gs:Array Goroutine} {W:World} {t:Trace} {rl:List bW} {Q:Machine->Outcome->World->Trace->Prop} {ms:MS}
theorem Dr{W:World}{a b:Int}{H:Int}(h:p.at W a H)(e:a=b):p.at W b H:=e ▸ h
theorem vC{j s:Nat}(h:∀k,J0<=k->k<N->sg k<=4\/sg k=8)(H:s<=4\/s=8):∀k,J0<=k->k<N->upd sg j s k<=4\/upd sg j s k=8:=by
 intro k h1 e;unfold upd;split
 ·exact H
 ·exact h k h1 e
theorem Dt{j s:Nat}(M:J0<=j)(J:j<N)(U:sg j<=4)(I:s<=4)(h:p.sit sg J0 N W ms):p.sit (upd sg j s) J0 N W ms:=by
 have H:cnt (upd sg j s) J0 N=cnt sg J0 N:=WM J ⟨λ_=>I,λ_=>U⟩;have no:∀l,J0<=l->l<N->(∀k,J0<=k->k<N->k≠l->sg k=8)->5<=sg l->False:=by
  intro l _ _ hk Z;by_cases e:j=l
  ·subst e;omega
  ·have:=hk j M J e;omega
 cases ms with
 | xJ|w1=>exact⟨vC h.1 (.inl I),by rw[H];exact h.2⟩
 | w2=>exact⟨vC h.1 (.inl I),by rw[H];exact h.2.1,h.2.2⟩
 | cb|wb|w3=>
  rcases h with h|⟨l,a,b,c,d⟩
  ·exact .inl ⟨vC h.1 (.inl I),by rw[H];exact h.2.1,by rw[H];exact h.2.2⟩
  ·exact (no l a b c (by rcases d with⟨h|h,_⟩|⟨h,_⟩|⟨h,_⟩<;>omega)).elim
 | sl=>
  rcases h with h|⟨l,a,b,c,d⟩
  ·exact .inl ⟨vC h.1 (.inl I),by rw[H];exact h.2.1,by rw[H];exact h.2.2⟩
  ·exact (no l a b c (by rcases d with⟨h|h,_⟩|⟨h,_⟩<;>omega)).elim
 | w4|en|ca|acq=>exact absurd (h.1 j M J) bB
theorem Z0{j:Nat}(I:J0<=j)(J:j<N)(h3:sg j=4)(h:p.sit sg J0 N W ms):∃v U:Nat,U<=1/\cnt sg J0 N=v+1/\p.at W (((v:Int)+1)*ConcR.KK+U) 0 /\
  ∀W',p.at W' ((v:Int)*ConcR.KK+U) 0->p.sit (upd sg j (if v=0/\U=1 then 5 else 8)) J0 N W' ms:=by
 have hc:=O9 (N:=N) I J (by omega:sg j<=4);have H:∀s,4<s->cnt (upd sg j s) J0 N=cnt sg J0 N-1:=λs hs=>by
  have:=ZX (N:=N) I J (by omega:sg j<=4) hs;omega
 have no:∀l,J0<=l->l<N->(∀k,J0<=k->k<N->k≠l->sg k=8)->5<=sg l->False:=by
  intro l _ _ hk h4;by_cases e:j=l
  ·subst e;omega
  ·have:=hk j I J e;omega
 have w0:(∀k,J0<=k->k<N->sg k<=4\/sg k=8)->p.at W ((cnt sg J0 N:Int)*ConcR.KK) 0->∃v:Nat,cnt sg J0 N=v+1/\p.at W (((v:Int)+1)*ConcR.KK+(0:Nat)) 0/\∀W',p.at W' ((v:Int)*ConcR.KK+(0:Nat)) 0->(∀k,J0<=k->k<N->upd sg j 8 k<=4\/upd sg j 8 k=8)/\p.at W' ((cnt (upd sg j 8) J0 N:Int)*ConcR.KK) 0:=by
  intro h1 Z;refine⟨cnt sg J0 N-1,bB,Dr Z (by unfold ConcR.KK;omega),λW' h'=>⟨vC h1 (.inr rfl),Dr h' (by rw[H 8 bB];unfold ConcR.KK;omega)⟩⟩
 have w1:(∀k,J0<=k->k<N->sg k<=4\/sg k=8)->p.at W ((cnt sg J0 N:Int)*ConcR.KK+1) 0->∃v:Nat,cnt sg J0 N=v+1/\p.at W (((v:Int)+1)*ConcR.KK+(1:Nat)) 0/\∀W',p.at W' ((v:Int)*ConcR.KK+(1:Nat)) 0 ->
   (v≠0/\(∀k,J0<=k->k<N->upd sg j 8 k<=4\/upd sg j 8 k=8)/\1<=cnt (upd sg j 8) J0 N/\p.at W' ((cnt (upd sg j 8) J0 N:Int)*ConcR.KK+1) 0)\/(v=0/\(∀k,J0<=k->k<N->k≠j->upd sg j 5 k=8)/\upd sg j 5 j=5/\p.at W' 1 0):=by
  intro h1 Z;refine⟨cnt sg J0 N-1,bB,Dr Z (by unfold ConcR.KK;omega),λW' h'=>?_⟩;by_cases M:cnt sg J0 N-1=0
  ·refine .inr ⟨M,λk a b hk=>?_,if_pos rfl,Dr h' (by rw[M];unfold ConcR.KK;omega)⟩;have h4:=LU (by rw[H 5 bB];exact M) k a b;simp only[upd,if_neg hk] at h4 ⊢;exact (h1 k a b).resolve_left bB
  ·exact .inl ⟨M,vC h1 (.inr rfl),by rw[H 8 bB];omega,Dr h' (by rw[H 8 bB];unfold ConcR.KK;omega)⟩
 cases ms with
 | xJ|w1=>
  obtain⟨v,a,b,c⟩:=w0 h.1 h.2;exact⟨v,0,bB,a,b,λW' h'=>by rw[if_neg bB];exact c W' h'⟩
 | w2 vs=>
  obtain⟨v,a,b,c⟩:=w0 h.1 h.2.1;exact⟨v,0,bB,a,b,λW' h'=>by rw[if_neg bB];exact⟨(c W' h').1,(c W' h').2,h.2.2⟩⟩
 | cb|wb|w3=>
  rcases h with h|⟨l,a,b,c,d⟩
  ·obtain⟨v,a,b,c⟩:=w1 h.1 h.2.2;refine⟨v,1,bB,a,b,λW' h'=>?_⟩;rcases c W' h' with⟨H,c2⟩|⟨H,c2,c3,c4⟩
   ·rw[if_neg bB];exact .inl c2
   ·rw[if_pos ⟨H,rfl⟩];exact .inr ⟨j,I,J,c2,.inl ⟨.inl c3,c4⟩⟩
  ·exact (no l a b c (by rcases d with⟨h|h,_⟩|⟨h,_⟩|⟨h,_⟩<;>omega)).elim
 | sl=>
  rcases h with h|⟨l,a,b,c,d⟩
  ·obtain⟨v,a,b,c⟩:=w1 h.1 h.2.2;refine⟨v,1,bB,a,b,λW' h'=>?_⟩;rcases c W' h' with⟨H,c2⟩|⟨H,c2,c3,c4⟩
   ·rw[if_neg bB];exact .inl c2
   ·rw[if_pos ⟨H,rfl⟩];exact .inr ⟨j,I,J,c2,.inl ⟨.inl c3,c4⟩⟩
  ·exact (no l a b c (by rcases d with⟨h|h,_⟩|⟨h,_⟩<;>omega)).elim
 | w4|en|ca|acq=>exact absurd (h.1 j I J) bB
theorem Fb{j:Nat}(H:J0<=j)(I:j<N)(U:5<=sg j)(Z:sg j<=7)(h:p.sit sg J0 N W ms):(ms = .cb\/ms = .wb\/ms = .w3\/ms = .sl)/\(∀k,J0<=k->k<N->k≠j->sg k=8)/\(((sg j=5\/sg j=6)/\p.at W 1 0)\/(sg j=7/\p.at W 0 0)):=by
 have J:∀l,(∀k,J0<=k->k<N->k≠l->sg k=8)->l=j:=by
  intro l hk;apply Classical.byContradiction;intro e;have:=hk j H I (λM=>e M.symm);omega
 cases ms with
 | xJ|w1|w2=>have:=h.1 j H I;omega
 | cb|wb|w3=>
  rcases h with h|⟨l,a,b,c,d⟩
  ·have:=h.1 j H I;omega
  ·have:=J l c;subst this;exact⟨eO,c,d.imp id λh=>h.resolve_right λh=>bB⟩
 | sl=>
  rcases h with h|⟨l,a,b,c,d⟩
  ·have:=h.1 j H I;omega
  ·have:=J l c;subst this;exact⟨eO,c,d⟩
 | w4|en|ca|acq=>have:=h.1 j H I;omega
theorem su{j s:Nat}(h:∀k,J0<=k->k<N->k≠j->sg k=8):∀k,J0<=k->k<N->k≠j->upd sg j s k=8:=λk a b c=>by
 simp only[upd,if_neg c];exact h k a b c
theorem Ul{g:Goroutine}{w:World}{O:Nat->Prop}(h:ms.iw p Nx g w O):g.offers=none:=by
 cases ms<;>first|exact h.2.1|exact h.elim
end
end Px
namespace Px
open Go Go.Conc
section
variable {p:Gp} {Nx:aR} {sd:Array Event} {M1:aR} {Sw:Nat->Prop} {h0:Nat->Option Obj} {J0 N s:Nat} {sg:Nat->Nat} {gs:Array Goroutine} {W:World} {t:Trace} {rl:List bW} {hh:Nat->Option Obj} {Q:Machine->Outcome->World->Trace->Prop} {ms:MS}
noncomputable abbrev tV(p:Gp)(Nx:aR)(sd:Array Event)(M1:aR)(Sw:Nat->Prop)(h0:Nat->Option Obj)(J0 N:Nat)(sg:Nat->Nat)(ms:MS):Dg:=p.dg Sw h0 J0 N sg (ms.stop p Nx sd M1) (ms.iw p Nx) ms.dm
def xK(p:Gp)(Sw:Nat->Prop)(hh:Nat->Option Obj)(s:Nat)(W:World):Prop:=Shut W p.cn s/\∀b,Sw b->b≠p.cn->b≠p.Wg->W.heap[b]? = hh b
def KA(p:Gp)(Nx:aR)(sd:Array Event)(M1:aR)(Sw:Nat->Prop)(J0 N s:Nat)(hh:Nat->Option Obj)(Q:Machine->Outcome->World->Trace->Prop)(E:Nat):Prop:=
 ∀sg ms h0 gs W t rl,12*tot sg J0 N+ms.rank (cnt sg J0 N)<E->GD (tV p Nx sd M1 Sw h0 J0 N sg ms) gs W t rl->gs.size=N->p.sit sg J0 N W ms->xK p Sw hh s W->gK p.P Q gs W t
theorem GD.wake(h:GD (tV p Nx sd M1 Sw h0 J0 N sg .sl) gs W t rl){x:Goroutine}(U:gs[0]? = some x)(hr:x.status = .running):∃rl',GD (tV p Nx sd M1 Sw h0 J0 N sg .w3) gs W t rl':=by
 have ύ:=(Array.getElem?_eq_some_iff.1 U).1;have ŀ:=h.len ▸ ύ;obtain⟨r,Ð⟩:∃r,rl[0]? = some r:=⟨rl[0],by simp[ŀ]⟩;have Z:∃r',r'.own=r.own/\l9 (tV p Nx sd M1 Sw h0 J0 N sg .w3) 0 r' x W t:=by
  match r,h.fit 0 r x Ð U with
  | .run m S g w O,⟨a,b,c,d,e,f,k⟩=>
   refine⟨.run m (LK p Nx) g w O,rfl,a,b,rfl,d,e,?_,k⟩;subst c;exact f.bind λg w O Ϗ=>.stop λH hk=>(Ϗ H hk).elim
  | .idle g w O,⟨a,b,_,d,e⟩=>
   have e:=e;refine⟨.run true (LK p Nx) x W O,rfl,a,rfl,rfl,rfl,hr,.stop λH hk=>?_,.refl ..⟩;have:=e.2.2 H (d.trans hk);rcases b with rfl|rfl
   ·rw[e.1] at hr;cases hr
   ·exact this
  | .quit q,⟨a,_⟩=>exact absurd rfl a
 obtain⟨r',h1,h2⟩:=Z;refine⟨rl.set 0 r',by simp[h.len],⟨by rw[qo Ð h1];exact h.wi.ap,by rw[qo Ð h1,length_set];exact h.wi.ti,h.wi.deaf,h.wi.pY⟩,h.fx,λj r2 y I M=>?_,h.pos⟩;by_cases J:j=0
 ·subst J;rw[List.getElem?_set_self ŀ] at I;cases I;rw[U] at M;cases M;exact h2
 ·rw[List.getElem?_set_ne (Ne.symm J)] at I;exact l9.to (p:=tV p Nx sd M1 Sw h0 J0 N sg .sl) rfl rfl id id (by simp[Gp.dg,J]) rfl (by simp[Gp.dg,J]) id (h.fit j r2 y I M)
theorem wh{W W':World}(h:xK p Sw hh s W)(U:p.cn≠p.Wg)(e:∀x,x≠p.Wg->W'.heap[x]? = W.heap[x]?):xK p Sw hh s W':=by
 obtain⟨⟨M,h⟩,J⟩:=h;exact⟨⟨M,(e _ U).trans h⟩,λb h1 I H=>(e b H).trans (J b h1 I H)⟩
theorem Du{W W':World}(h:xK p Sw hh s W)(Z:Sw p.cn)(h1:∀b,Sw b->W.heap[b]? = h0 b)(H:∀b,Sw b->W'.heap[b]? = h0 b):xK p Sw hh s W':=by
 have e:∀b,Sw b->W'.heap[b]? = W.heap[b]?:=λb I=>(H b I).trans (h1 b I).symm
 obtain⟨⟨U,h⟩,M⟩:=h;exact⟨⟨U,(e _ Z).trans h⟩,λb h1 H J=>(e b h1).trans (M b h1 H J)⟩
theorem Um(e:p.sit sg J0 N W ms):∃I H,p.at W I H:=by
 cases ms with
 | xJ|w1=>exact⟨_,_,e.2⟩
 | w2=>exact⟨_,_,e.2.1⟩
 | cb|wb|w3=>
  rcases e with h|⟨_,_,_,_,h|h|h⟩
  ·exact⟨_,_,h.2.2⟩
  all_goals exact⟨_,_,h.2⟩
 | sl=>
  rcases e with h|⟨_,_,_,_,h|h⟩
  ·exact⟨_,_,h.2.2⟩
  all_goals exact⟨_,_,h.2⟩
 | w4|en|ca|acq=>exact⟨_,_,e.2⟩
theorem Un(c:Ctx p Nx sd M1 Sw J0 N)(h:GD (tV p Nx sd M1 Sw h0 J0 N sg ms) gs W t rl)(hs:p.sit sg J0 N W ms)(í:xK p Sw hh s W)(hN:gs.size=N){j:Nat}{g:Goroutine}(hg:gs[j]? = some g)(hr:g.status = .running)(ϧ:j≠0)(ó:LJ (tV p Nx sd M1 Sw h0 J0 N sg ms) rl j g)
  (nx:KA p Nx sd M1 Sw J0 N s hh Q (12*tot sg J0 N+ms.rank (cnt sg J0 N))) (d:Nat) (sl:Option (Nat×Nat)):iQ p.P Q gs W t j d sl:=by
 have ύ:=(Array.getElem?_eq_some_iff.1 hg).1;obtain⟨r,o8⟩:∃r,rl[j]? = some r:=⟨rl[j]'(by rw[h.len];exact ύ),eO⟩;have hf:=h.fit j r g o8 hg;have hl:(tV p Nx sd M1 Sw h0 J0 N sg ms).L j:=by
  rcases ó with⟨m,g0,w0,O,e,Ϗ⟩|⟨g0,w0,O,e⟩|⟨e,hl⟩
  ·rw[o8] at e;cases e;exact hf.1
  ·rw[o8] at e;cases e;exact hf.1
  ·exact hl.1
 obtain⟨M,U,h6⟩:J0<=j/\j<N/\sg j<=7:=Or.resolve_left hl ϧ;have q0:sg j≠0->(∃q,rl[j]? = some (.quit q))/\(tV p Nx sd M1 Sw h0 J0 N sg ms).qt j g:=by
  intro ϝ;rcases ó with⟨m,g0,w0,O,e,Ϗ⟩|⟨g0,w0,O,e⟩|⟨e,_,e'⟩
  ·have:=Ϗ w0 (.refl ..);have:(if j=0 then ms.stop p Nx sd M1 else λg _ _=>sg j=0/\qc p g) g0 w0 O:=this;rw[if_neg ϧ] at this;exact absurd this.1 ϝ
  ·rw[o8] at e;cases e;have:if j=0 then ms.iw p Nx g0 w0 O else sg j=0/\qc p g0:=hf.2.2.2.2
   rw[if_neg ϧ] at this;exact absurd this.1 ϝ
  ·exact⟨e,e'⟩
 have H:∀s',sg j<s'->s'<=8->∀ms':MS,12*tot (upd sg j s') J0 N+ms'.rank (cnt (upd sg j s') J0 N)<12*tot sg J0 N+ms.rank (cnt sg J0 N):=by
  intro s' h1 h2 ms';have:=ZW M U h1 h2;have:=MS.ZY (cnt (upd sg j s') J0 N) ms';omega
 have wa:∀st sm,p.at W st sm->p.at (W.at d) st sm:=λ_ _ h=>h
 rcases (by omega:sg j=0\/sg j=1\/sg j=2\/sg j=3\/sg j=4\/sg j=5\/sg j=6\/sg j=7) with e|e|e|e|e|e|e|e
 ·refine ZU h (λ_ _ _=>Ul) c.j0 M U e o8 hg hr ó í.1 (λgs' W' t' rl' hW hG hz=>?_) d sl;refine nx (upd sg j 1) ms h0 gs' W' t' rl' (H 1 bB bB ms) hG (hz.trans hN) (Gp.za (Dt M U bB bB hs) (by rw[hW])) (wh í c.ne λx _=>by rw[hW])
 all_goals obtain⟨⟨qq,ū⟩,qt⟩:=q0 bB
 ·obtain⟨st,sm,ϯ⟩:=Um hs;refine aeA h c.j0 M U e ū hg (by simpa only [Gp.dg,e] using qt) ϯ (λgs' W' t' rl' hG hz=>?_) d sl;exact nx (upd sg j 2) ms h0 gs' W' t' rl' (H 2 bB bB ms) hG (hz.trans hN) (Gp.za (Dt M U bB bB hs) ((hG.fx _ c.wg).trans (h.fx _ c.wg).symm)) (Du í c.cn h.fx hG.fx)
 ·refine aeB h c.j0 M U e ū hg (by simpa only [Gp.dg,e] using qt) (λgs' W' t' rl' hG hz=>?_) d sl;exact nx (upd sg j 3) ms h0 gs' W' t' rl' (H 3 bB bB ms) hG (hz.trans hN) (Gp.za (Dt M U bB bB hs) ((hG.fx _ c.wg).trans (h.fx _ c.wg).symm)) (Du í c.cn h.fx hG.fx)
 ·refine aeC h c.j0 M U e ū hg (by simpa only [Gp.dg,e] using qt) (λgs' W' t' rl' hG hz=>?_) d sl;exact nx (upd sg j 4) ms h0 gs' W' t' rl' (H 4 bB bB ms) hG (hz.trans hN) (Gp.za (Dt M U bB bB hs) ((hG.fx _ c.wg).trans (h.fx _ c.wg).symm)) (Du í c.cn h.fx hG.fx)
 ·obtain⟨v,wt,h1,h2,h3,h4⟩:=Z0 M U e hs;have Z:AtD1 p g:=by simpa only [Gp.dg,e] using qt
  have hb:=c.big;have ĭ:=Uk (sg:=sg) (J0:=J0) (N:=N);obtain⟨g',e1,a4,a7⟩:=Z (W.at d) v wt h1 bB (wa _ _ h3);obtain⟨b1,b2,b3⟩:=BU (wa _ _ h3) ((v:Int)*ConcR.KK+wt);have hs':=h4 _ b1;have J:=wh (W:=W) í c.ne b3;by_cases hv:v=0/\wt=1
  ·rw[if_pos hv] at hs';obtain⟨q,Z⟩:=a4 hv;refine Gh h c.j0 c.wg (s:=5) (q:=q) M U bB h6 ū hg d sl e1 b2 b3 (λx I=>?_) ?_ rfl bB (.inr ⟨bB,by simpa only [Gp.dg,upd,if_true] using Z⟩) λgs' t' rl' hG hz _ _=>nx (upd sg j 5) ms _ gs' _ t' rl' (H 5 bB bB ms) hG (hz.trans hN) hs' J
   ·simp only[mem_toArray,mem_cons,not_mem_nil,or_false] at I;rcases I with rfl|rfl<;>exact .inl ⟨_,_,rfl,rfl⟩
   ·exact⟨.inr ⟨λx I=>by cases I;rfl,Nat.succ_ne_zero _⟩,.inr ⟨λx I=>by cases I;rfl,Nat.succ_ne_zero _⟩,trivial⟩
  ·rw[if_neg hv] at hs';obtain⟨q,Z⟩:=a7 hv;refine Gh h c.j0 c.wg (s:=8) (q:=q) M U bB h6 ū hg d sl e1 b2 b3 (λx I=>?_) ?_ rfl bB (.inl ⟨bB,Z⟩) λgs' t' rl' hG hz _ _=>nx (upd sg j 8) ms _ gs' _ t' rl' (H 8 bB bB ms) hG (hz.trans hN) hs' J
   ·simp only[mem_toArray,mem_cons,not_mem_nil,or_false] at I;rcases I with rfl|rfl<;>exact .inl ⟨_,_,rfl,rfl⟩
   ·exact⟨.inr ⟨λx I=>by cases I;rfl,Nat.succ_ne_zero _⟩,.inr ⟨λx I=>by cases I;rfl,Nat.succ_ne_zero _⟩,trivial⟩
 ·obtain⟨hm,ho,ha⟩:=Fb M U bB h6 hs;have ha:=(ha.resolve_right λh=>bB).2;have Z:AtD2 p g:=by simpa only [Gp.dg,e] using qt
  obtain⟨g',e1,q,Z⟩:=Z (W.at d) (wa _ _ ha);refine Gh h c.j0 c.wg (s:=6) (q:=q) M U bB h6 ū hg d sl e1 rfl (λ_ _=>rfl) (λx I=>?_) ?_ rfl bB (.inr ⟨bB,by simpa only [Gp.dg,upd,if_true] using Z⟩) λgs' t' rl' hG hz _ _=>nx (upd sg j 6) ms _ gs' _ t' rl' (H 6 bB bB ms) hG (hz.trans hN) ?_ í
  ·simp only[mem_toArray,mem_cons,not_mem_nil,or_false] at I;subst I;exact .inl ⟨_,_,rfl,rfl⟩
  ·exact⟨.inr ⟨λx I=>by cases I;rfl,Nat.succ_ne_zero _⟩,trivial⟩
  ·rcases hm with rfl|rfl|rfl|rfl<;>exact .inr ⟨j,M,U,su ho,.inl ⟨.inr (if_pos rfl),ha⟩⟩
 ·obtain⟨hm,ho,ha⟩:=Fb M U bB h6 hs;have ha:=(ha.resolve_right λh=>bB).2;have Z:AtD3 p g:=by simpa only [Gp.dg,e] using qt
  obtain⟨g',e1,q,Z⟩:=Z (W.at d) (wa _ _ ha);obtain⟨b1,b2,b3⟩:=BU (wa _ _ ha) 0;have J:=wh (W:=W) í c.ne b3;refine Gh h c.j0 c.wg (s:=7) (q:=q) M U bB h6 ū hg d sl e1 b2 b3 (λx I=>?_) ?_ rfl bB (.inr ⟨bB,by simpa only [Gp.dg,upd,if_true] using Z⟩) λgs' t' rl' hG hz _ _=>nx (upd sg j 7) ms _ gs' _ t' rl' (H 7 bB bB ms) hG (hz.trans hN) ?_ J
  ·simp only[mem_toArray,mem_cons,not_mem_nil,or_false] at I;subst I;exact .inl ⟨_,_,rfl,rfl⟩
  ·exact⟨.inr ⟨λx I=>by cases I;rfl,Nat.succ_ne_zero _⟩,trivial⟩
  ·rcases hm with rfl|rfl|rfl|rfl
   ·exact .inr ⟨j,M,U,su ho,.inr (.inl ⟨if_pos rfl,b1⟩)⟩
   ·exact .inr ⟨j,M,U,su ho,.inr (.inl ⟨if_pos rfl,b1⟩)⟩
   ·exact .inr ⟨j,M,U,su ho,.inr (.inl ⟨if_pos rfl,b1⟩)⟩
   ·exact .inr ⟨j,M,U,su ho,.inr ⟨if_pos rfl,b1⟩⟩
 ·obtain⟨hm,ho,ha⟩:=Fb M U bB h6 hs;have ha:=(ha.resolve_left λh=>bB).2;have Z:AtD4 p g:=by simpa only [Gp.dg,e] using qt
  obtain⟨mw,Z⟩:=Z;obtain⟨g',e1,q,Z⟩:=Z (W.at d) (wa _ _ ha);obtain⟨b1,b2,b3⟩:=LM (wa _ _ ha) 1;have J:=wh (W:=W) í c.ne b3;refine Gh h c.j0 c.wg (s:=8) (q:=q) M U bB h6 ū hg d sl e1 b2 b3 (λx I=>?_) ?_ rfl bB (.inl ⟨bB,Z⟩) λgs' t' rl' hG hz đ Ð=>?_
  ·simp only[semEvents,mem_toArray,mem_cons,not_mem_nil,or_false] at I;rcases I with rfl|rfl|rfl|rfl
   ·exact .inr (.inl rfl)
   ·exact .inl ⟨_,_,rfl,rfl⟩
   ·exact .inl ⟨_,_,rfl,rfl⟩
   ·exact .inr (.inr rfl)
  ·exact⟨.inl rfl,.inr ⟨λx I=>by cases I;rfl,Nat.succ_ne_zero _⟩,.inr ⟨λx I=>by cases I;rfl,Nat.succ_ne_zero _⟩,.inl rfl,trivial⟩
  ·have fin:p.sit (upd sg j 8) J0 N ((W.at d).setCell p.smA (.int .u32 1)) .w3:=.inr ⟨j,M,U,su ho,.inr (.inr ⟨if_pos rfl,b1⟩)⟩;rcases hm with rfl|rfl|rfl|rfl
   ·exact nx (upd sg j 8) .cb _ gs' _ t' rl' (H 8 bB bB _) hG (hz.trans hN) fin J
   ·exact nx (upd sg j 8) .wb _ gs' _ t' rl' (H 8 bB bB _) hG (hz.trans hN) fin J
   ·exact nx (upd sg j 8) .w3 _ gs' _ t' rl' (H 8 bB bB _) hG (hz.trans hN) fin J
   ·obtain⟨x,I⟩:∃x,gs[0]? = some x:=⟨gs[0]'(h.pos),by simp[h.pos]⟩;have ŀ:=h.len ▸ h.pos;obtain⟨r0,ahd⟩:∃r,rl[0]? = some r:=⟨rl[0],by simp[ŀ]⟩;have ŧ:=h.fit 0 r0 x ahd I;have run:(Conc.woken p.P g g' ((W.at d).setCell p.smA (.int .u32 1)) x).status = .running:=by
     have hg':(g'.status != .blocked&&g'.status != .waiting)=true:=by
      rcases j3 Z with h|h<;>rw[h]<;>rfl
     unfold Conc.woken;rw[Bool.and_assoc,mw,hg',Bool.and_self,if_pos rfl];match r0,ŧ with
     | .run ..,⟨_,_,_,_,h4,_⟩=>rw[jZ (.inl h4)];exact h4
     | .idle g0 w0 O,⟨_,h4,_,_,h5⟩=>
      have h5:=h5;rcases h4 with rfl|rfl
      ·unfold Goroutine.again;rw[h5.1,h5.2.1]
      ·rw[jZ (.inl rfl)]
     | .quit _,⟨h,_⟩=>exact absurd rfl h
    rw[I] at đ;obtain⟨rl2,hG2⟩:=GD.wake (p:=p) (Nx:=Nx) (sd:=sd) (M1:=M1) hG đ run;exact nx (upd sg j 8) .w3 _ gs' _ t' rl2 (H 8 bB bB _) hG2 (hz.trans hN) fin J
end
end Px
namespace Px
open Go Go.Conc
section
variable {p:Gp} {Nx:aR} {sd:Array Event} {M1:aR} {Sw:Nat->Prop} {h0:Nat->Option Obj} {J0 N s:Nat} {sg:Nat->Nat} {gs:Array Goroutine} {W:World} {t:Trace} {rl:List bW} {hh:Nat->Option Obj} {Q:Machine->Outcome->World->Trace->Prop} {ms:MS}
def Dv(p:Gp)(Nx:aR)(sd:Array Event)(M1:aR)(Sw:Nat->Prop)(J0 N:Nat)(hh:Nat->Option Obj)(Q:Machine->Outcome->World->Trace->Prop):Prop:=
 ∀sg h0 gs W t rl g w O d sl,GD (tV p Nx sd M1 Sw h0 J0 N sg .acq) gs W t rl->(∀j,J0<=j->j<N->sg j=8)->p.at W 0 0->(∀b,Sw b->b≠p.cn->b≠p.Wg->W.heap[b]? = hh b)->gs.size=N->gs[0]? = some g->rl[0]? = some (.run true (BS p Nx) g w O)->(∀w₁,Keep p.Ro O w w₁->BS p Nx g w₁ O)->Keep p.Ro O w W->iQ p.P Q gs W t 0 d sl
theorem Gj(c:Ctx p Nx sd M1 Sw J0 N){a:Addr}(e:a.block=p.Wg)(w:Bool):(∀x,(MemAct.ofEvent ⟨.cell a,w,true⟩).touch? = some x->tN Sw x.loc/\x.kind ≠ .plain)/\∀b,MemAct.ofEvent ⟨.cell a,w,true⟩ ≠ .mark (.release b):=by
 refine⟨λx H=>?_,λb=>?_⟩
 ·cases w<;>(cases H;exact⟨⟨_,rfl,by rw[e];exact c.wg⟩,λh=>by cases h⟩)
 ·cases w<;>exact λh=>by cases h
theorem Iu{m:Mark}(h1:(MemAct.mark m).touch? = none)(H:∀b,m ≠ .release b):(∀x,(MemAct.ofEvent (ConcR.mk m)).touch? = some x->tN Sw x.loc/\x.kind ≠ .plain)/\∀b,MemAct.ofEvent (ConcR.mk m) ≠ .mark (.release b):=by
 refine⟨λx I=>?_,λb e=>?_⟩
 ·have:(MemAct.mark m).touch? = some x:=I;rw[h1] at this;cases this
 ·have:MemAct.mark m = .mark (.release b):=e;exact H b (MemAct.mark.inj this)
theorem Uo(c:Ctx p Nx sd M1 Sw J0 N)(la:Dv p Nx sd M1 Sw J0 N hh Q)(h:GD (tV p Nx sd M1 Sw h0 J0 N sg ms) gs W t rl)(I:p.sit sg J0 N W ms)(í:xK p Sw hh s W)(hN:gs.size=N){g:Goroutine}(hg:gs[0]? = some g)(hr:g.status = .running)(ó:LJ (tV p Nx sd M1 Sw h0 J0 N sg ms) rl 0 g)
  (d:Nat) (Ug:∀x',x'.status = .blocked->GD (tV p Nx sd M1 Sw h0 J0 N sg ms) (gs.setIfInBounds 0 x') (W.at d) t rl->gK p.P Q (gs.setIfInBounds 0 x') (W.at d) t) (nx:KA p Nx sd M1 Sw J0 N s hh Q (12*tot sg J0 N+ms.rank (cnt sg J0 N))) (sl:Option (Nat×Nat)):iQ p.P Q gs W t 0 d sl:=by
 have ύ:=(Array.getElem?_eq_some_iff.1 hg).1;have ŀ:=h.len ▸ ύ;have less:∀H:MS,H.rank (cnt sg J0 N)<ms.rank (cnt sg J0 N)->12*tot sg J0 N+H.rank (cnt sg J0 N)<12*tot sg J0 N+ms.rank (cnt sg J0 N):=λH h=>bB;have Z:∀st sm,p.at W st sm->p.at (W.at d) st sm:=λ_ _ h=>h
 have Yy:∀ {g':Goroutine} {w':World},g'.status = .blocked->gs.map (Conc.woken p.P g g' w')=gs:=by
  intro g' w' hb;apply Array.ext_getElem?;intro k;rw[Array.getElem?_map];cases gs[k]? with
  | none=>rfl
  | some x=>simp[Conc.woken,hb]
 have Uq:∀fn pos,t++MemOp.ofEvents 0 fn pos #[]=t:=λfn pos=>by simp[MemOp.ofEvents]
 rcases ó with⟨m,g0,w0,O,e,Ϗ⟩|⟨g0,w0,O,e⟩|⟨⟨_,e⟩,_⟩
 ·obtain⟨_,rfl,_,rfl,_,_,hk⟩:=h.fit 0 _ g e hg;have hk:=hk;have ņ:Keep p.Ro O w0 (W.at d):=hk.trans (iN ..);have hS:=Ϗ;have J:=hS _ ņ;have go:∀(H:MS) {g':Goroutine} {W':World} {es:Array Event},stepG p.P true g (W.at d) = .go g' W' es->W'.heap.size=W.heap.size->(∀b,b≠p.Wg->W'.heap[b]? = W.heap[b]?) ->
    (∀e,e∈es->(∀x,(MemAct.ofEvent e).touch? = some x->tN Sw x.loc/\x.kind ≠ .plain)/\∀a,MemAct.ofEvent e ≠ .mark (.release a))->deafBehind ms.dm es=H.dm->g'.status = .running->Runs p.P true p.Ro (H.stop p Nx sd M1) g' W' O->H.rank (cnt sg J0 N)<ms.rank (cnt sg J0 N)->p.sit sg J0 N W' H->∀(jU:W'.os=W.os/\W'.output=W.output:=by exact⟨rfl,rfl⟩),iQ p.P Q gs W t 0 d sl:=by
   intro H g' W' es e1 size old ĸ hd hr' hR Yz hs' jU;refine ZV (M':=H.stop p Nx sd M1) (Gi:=H.iw p Nx) (jQ:=H.dm) h c.wg e rfl hg d sl e1 size old ĸ hd hr' hR (λgs' t' rl' hG hz _=>?_) jU;exact nx sg H _ gs' _ t' rl' (less H Yz) hG (hz.trans hN) hs' (wh í c.ne old)
  have m1:∀(m:Mark),(MemAct.mark m).touch? = none->(∀b,m ≠ .release b)->∀e,e∈#[ConcR.mk m]->(∀x,(MemAct.ofEvent e).touch? = some x->tN Sw x.loc/\x.kind ≠ .plain)/\∀a,MemAct.ofEvent e ≠ .mark (.release a):=by
   intro m h1 h2 e he;simp only[mem_toArray,mem_cons,not_mem_nil,or_false] at he;subst he;exact Iu h1 h2
  have r1:∀e,e∈#[ConcR.rd p.stA]->(∀x,(MemAct.ofEvent e).touch? = some x->tN Sw x.loc/\x.kind ≠ .plain)/\∀a,MemAct.ofEvent e ≠ .mark (.release a):=by
   intro e he;simp only[mem_toArray,mem_cons,not_mem_nil,or_false] at he;subst he;exact Gj c rfl _
  have r2:∀e,e∈#[ConcR.rd p.stA,ConcR.wr p.stA]->(∀x,(MemAct.ofEvent e).touch? = some x->tN Sw x.loc/\x.kind ≠ .plain)/\∀a,MemAct.ofEvent e ≠ .mark (.release a):=by
   intro e he;simp only[mem_toArray,mem_cons,not_mem_nil,or_false] at he;rcases he with rfl|rfl<;>exact Gj c rfl _
  have ĭ:=Uk (sg:=sg) (J0:=J0) (N:=N);have hb:=c.big;have ahe:(∀j,J0<=j->j<N->sg j<=4\/sg j=8)->cnt sg J0 N=0->∀j,J0<=j->j<N->sg j=8:=λh1 h2 j a b=>(h1 j a b).resolve_left (by have:=LU h2 j a b;omega)
  cases ms with
  | xJ=>
   obtain⟨g',e1,e2,e3⟩:=J;exact go .w1 e1 rfl (λ_ _=>rfl) (m1 .disable rfl λ_ h=>by cases h) rfl e2 e3 (by simp[MS.rank]) I
  | w1=>
   obtain⟨g',e1,e2,e3,e4⟩:=c.w1 _ _ _ J (cnt sg J0 N) bB (Z _ _ I.2);by_cases hv:cnt sg J0 N=0
   ·exact go .en e1 rfl (λ_ _=>rfl) r1 rfl e2 (e3 hv) (by simp[MS.rank]) ⟨ahe I.1 hv,Dr (Z _ _ I.2) (by rw[hv];simp)⟩
   ·exact go (.w2 (cnt sg J0 N)) e1 rfl (λ_ _=>rfl) r1 rfl e2 (e4 hv) (by simp[MS.rank]) ⟨I.1,Z _ _ I.2,bB⟩
  | w2 vs=>
   obtain⟨e1,e2⟩:=J (cnt sg J0 N) bB (Z _ _ I.2.1);by_cases hv:cnt sg J0 N=vs
   ·obtain⟨g',M,a2,U⟩:=e1 hv;obtain⟨b1,b2,b3⟩:=BU (Z _ _ I.2.1) ((cnt sg J0 N:Int)*ConcR.KK+1);exact go .cb M b2 b3 r2 rfl a2 U (by simp[MS.rank,hv]) (.inl ⟨I.1,by have:=I.2.2;omega,b1⟩)
   ·obtain⟨g',M,a2,U⟩:=e2 hv;exact go .w1 M rfl (λ_ _=>rfl) r1 rfl a2 U (by simp[MS.rank,Ne.symm hv]) ⟨I.1,Z _ _ I.2.1⟩
  | cb=>
   obtain⟨st,sm,ϯ⟩:=Um I;obtain⟨g',M,a2,U⟩:=J st sm (Z _ _ ϯ);exact go .wb M rfl (λ_ _=>rfl) (λe he=>by simp at he) rfl a2 U (by simp[MS.rank]) I
  | wb=>
   obtain⟨g',M,a2,U⟩:=J;exact go .w3 M rfl (λ_ _=>rfl) c.sd1 c.sd2 a2 U (by simp[MS.rank]) I
  | w3=>
   obtain⟨M,a2,U,a4⟩:=J;have Q6:p.sit sg J0 N W .sl->iQ p.P Q gs W t 0 d sl:=by
    intro hs';have ϯ:∃st,p.at (W.at d) st 0:=by
     rcases hs' with h|⟨_,_,_,_,h|h⟩
     ·exact⟨_,Z _ _ h.2.2⟩
     ·exact⟨_,Z _ _ h.2⟩
     ·exact⟨_,Z _ _ h.2⟩
    obtain⟨st,ϯ⟩:=ϯ
    have e1:=U st ϯ
    refine .inl ⟨_,_,_,runT_crowd_go hg (by exact e1),?_⟩;have hW:=h.at (Gp.ny p) d;refine nx sg .sl h0 _ _ _ (rl.set 0 (.idle { g with status:=.blocked } (W.at d) O)) (less .sl (by simp[MS.rank])) ?_ (by simpa using hN) hs' í;refine zT (M':=MS.stop p Nx sd M1 .sl) (Gi:=MS.iw p Nx .sl) (jQ:=1) hW (r':=.idle { g with status:=.blocked } (W.at d) O) { g with status:=.blocked } e rfl (λ_ _=>rfl) hW.fx (λ_ h=>h) (λop ό=>?_) (λop ό=>?_) ?_ ⟨.inl rfl,.inl rfl,.inr ⟨rfl,rfl⟩,.refl ..,rfl,a2,λw₁ hk₁=>?_⟩
    ·rw[show MemOp.ofEvents 0 g.frame.fn g.frame.place #[]=#[] by simp[MemOp.ofEvents]] at ό;simp at ό
    ·rw[show MemOp.ofEvents 0 g.frame.fn g.frame.place #[]=#[] by simp[MemOp.ofEvents]] at ό;simp at ό
    ·rw[Uq];exact (h.wi.deaf 0 (.inl rfl)).trans (by simp[Gp.dg,MS.dm])
    ·have eg:({ { g with status:=.blocked } with status:=.running }:Goroutine)=g:=by
      obtain⟨a,b,c',d',e'⟩:=g;dsimp only at M;subst M;rfl
     rw[eg];exact hS _ (ņ.trans hk₁)
   rcases I with h1|⟨l,b1,b2,b3,h1|h1|h1⟩
   ·exact Q6 (.inl h1)
   ·exact Q6 (.inr ⟨l,b1,b2,b3,.inl h1⟩)
   ·exact Q6 (.inr ⟨l,b1,b2,b3,.inr h1⟩)
   ·obtain⟨g',c1,c2,c3⟩:=a4 (Z _ _ h1.2);obtain⟨d1,d2,d3⟩:=LM (Z _ _ h1.2) 0;refine go .w4 c1 d2 d3 (λx hx=>?_) rfl c2 c3 (by simp[MS.rank]) ⟨λj x y=>?_,d1⟩
    ·simp only[semEvents,mem_toArray,mem_cons,not_mem_nil,or_false] at hx;rcases hx with rfl|rfl|rfl|rfl
     ·exact Iu rfl λ_ h=>by cases h
     ·exact Gj c rfl _
     ·exact Gj c rfl _
     ·exact Iu rfl λ_ h=>by cases h
    ·by_cases Μ:j=l
     ·subst Μ;exact h1.1
     ·exact b3 j x y Μ
  | sl=>exact J.elim
  | w4=>
   obtain⟨g',M,a2,U⟩:=J (Z _ _ I.2);exact go .en M rfl (λ_ _=>rfl) r1 rfl a2 U (by simp[MS.rank]) I
  | en=>
   obtain⟨g',M,a2,U⟩:=J;exact go .ca M rfl (λ_ _=>rfl) (m1 .enable rfl λ_ h=>by cases h) rfl a2 U (by simp[MS.rank]) I
  | ca=>
   obtain⟨g',M,a2,U⟩:=J 0 0 (Z _ _ I.2);exact go .acq M rfl (λ_ _=>rfl) (λe he=>by simp at he) rfl a2 U (by simp[MS.rank]) I
  | acq=>exact la sg h0 gs W t rl g w0 O d sl h I.1 I.2 í.2 hN hg e hS hk
 ·obtain⟨_,hx,_,hk,hi⟩:=h.fit 0 _ g e hg;have hi:=hi;cases ms with
  | sl=>
   obtain⟨i1,i2,i3⟩:=hi;rcases hx with rfl|rfl
   ·rw[i1] at hr;cases hr
   ·have ņ:Keep p.Ro O w0 (W.at d):=hk.trans (iN ..);obtain⟨M,a2,U,_⟩:=i3 _ ņ;have ϯ:∃st,p.at (W.at d) st 0:=by
     rcases I with h|⟨_,_,_,_,h|h⟩
     ·exact⟨_,Z _ _ h.2.2⟩
     ·exact⟨_,Z _ _ h.2⟩
     ·exact⟨_,Z _ _ h.2⟩
    obtain⟨st,ϯ⟩:=ϯ
    have e1:=U st ϯ
    have eg:({ { g0 with status:=.running } with status:=.blocked }:Goroutine)=g0:=by
     obtain⟨a,b,c',d',e'⟩:=g0;dsimp only at i1;subst i1;rfl
    rw[eg] at e1;refine .inl ⟨_,_,_,runT_crowd_go hg (by exact e1),?_⟩;rw[Yy i1,Uq];refine Ug g0 i1 ?_;have hW:=h.at (Gp.ny p) d;have:=hW.mute (Gp.ny p) (j:=0) (r:=.idle g0 w0 O) (r':=.idle g0 w0 O) (g:={ g0 with status:=.running }) (g':=g0) (es:=#[]) 0 "" g0 e rfl (λe he=>by simp at he) (λe he=>by simp at he) (λ_=>by rw[Uq]) (by
     rw[Uq];exact⟨.inl rfl,.inl rfl,.inr ⟨rfl,i1⟩,ņ,i1,i2,i3⟩)
    have this:GD (tV p Nx sd M1 Sw h0 J0 N sg .sl) ((gs.map (Conc.woken p.P { g0 with status:=.running } g0 (W.at d))).setIfInBounds 0 g0) (W.at d) (t++MemOp.ofEvents 0 0 "" #[]) (rl.set 0 (.idle g0 w0 O)):=this;rw[Yy i1,Uq] at this;have er:rl.set 0 (.idle g0 w0 O)=rl:=by
     apply ext_getElem?;intro k;by_cases Ϭ:k=0
     ·subst Ϭ;rw[List.getElem?_set_self ŀ];exact e.symm
     ·rw[List.getElem?_set_ne (Ne.symm Ϭ)]
    rw[er] at this;exact this
  | _=>exact hi.elim
 ·exact absurd rfl (h.fit 0 _ g e hg).1
theorem Ur(c:Ctx p Nx sd M1 Sw J0 N)(la:Dv p Nx sd M1 Sw J0 N hh Q):∀E,KA p Nx sd M1 Sw J0 N s hh Q E:=by
 intro E;induction E with
 | zero=>intro sg ms h0 gs W t rl hE;omega
 | succ E ihE=>
  intro sg ms h0 gs W t rl hE h hN hs í;have nx:KA p Nx sd M1 Sw J0 N s hh Q (12*tot sg J0 N+ms.rank (cnt sg J0 N)):=λZ U M gs' W' t' rl' hE'=>ihE Z U M gs' W' t' rl' bB
  have same:∀ {W':World} {gs' t' rl'},GD (tV p Nx sd M1 Sw h0 J0 N sg ms) gs' W' t' rl'->p.sit sg J0 N W' ms/\xK p Sw hh s W':=λhG=>⟨Gp.za hs ((hG.fx _ c.wg).trans (h.fx _ c.wg).symm),Du í c.cn h.fx hG.fx⟩
  refine drive (Gp.ny p) (N:=N) (λgs W t rl hG J=>?_) (λgs W t rl hG J i g d sl hg hr ó Ug=>?_) gs W t rl h hN
  ·obtain⟨e,_⟩:=same hG;obtain⟨x,hx⟩:∃x,gs[0]? = some x:=⟨gs[0]'hG.pos,by simp[hG.pos]⟩;have ŀ:=hG.len ▸ hG.pos;obtain⟨r0,Ð⟩:∃r,rl[0]? = some r:=⟨rl[0],by simp[ŀ]⟩;have ŧ:=hG.fit 0 r0 x Ð hx;by_cases hm:ms = .sl
   ·subst hm;have:∃k,J0<=k/\k<N/\sg k<=7:=by
     rcases e with h|⟨l,a,b,_,h⟩
     ·obtain⟨k,a,b,c⟩:=WO h.2.1;exact⟨k,a,b,bB⟩
     ·exact⟨l,a,b,by rcases h with⟨h|h,_⟩|⟨h,_⟩<;>omega⟩
    obtain⟨k,a,b,c'⟩:=this;exact Uj hG (by have:=c.j0;omega) (J ▸ b) (.inr ⟨a,b,c'⟩)
   ·match r0,ŧ with
    | .run ..,⟨_,_,_,_,h4,_⟩=>exact⟨0,x,hx,h4⟩
    | .idle g0 w0 O,⟨_,_,_,_,I⟩=>
     have I:=I;cases ms<;>first|exact absurd rfl hm|exact I.elim
    | .quit _,⟨h,_⟩=>exact absurd rfl h
  ·obtain⟨e,H⟩:=same hG;by_cases I:i=0
   ·subst I;exact Uo c la hG e H J hg hr ó d (Ug rfl) nx sl
   ·exact Un c hG e H J hg hr I ó nx d sl
end
end Px
namespace Px
open Go Go.Conc
section
variable {p:Gp} {Nx:aR} {sd:Array Event} {M1:aR} {Sw:Nat->Prop} {J0 N:Nat} {hh:Nat->Option Obj} {Q:Machine->Outcome->World->Trace->Prop}
theorem Pb(q:Pl)(hP:q.P=p.P)(hS:q.Sw=Sw)(fI:q.Ro=p.Ro)(hJ:q.J0=N)(hd:q.dm=0)(hn:q.n=0)(hM:q.fq 0 []=Nx)(_:Ctx p Nx sd M1 Sw J0 N)
  (nx:∀gs W t rl,G2 { q with h0:=λb=>W.heap[b]? } gs W t rl (λ_=>none) 0 []->gs.size=N->p.at W 0 0->(∀b,Sw b->b≠p.cn->b≠p.Wg->W.heap[b]? = hh b)->gK p.P Q gs W t):Dv p Nx sd M1 Sw J0 N hh Q:=by
 intro sg h0 gs W t rl g w O d sl h h7 ϯ Ŷ hN hg e Ϗ hk;have ŀ:0<rl.length:=h.len ▸ h.pos;obtain⟨g',M,hr,Ã⟩:=Ϗ (W.at d) (hk.trans (iN ..));refine .inl ⟨_,_,_,runT_crowd_go hg (by exact M),?_⟩;have hW:=h.at (Gp.ny p) d;have d0:Deaf t 0=0:=(h.wi.deaf 0 (.inl rfl)).trans (by simp[Gp.dg,MS.dm]);have ops:∀op∈MemOp.ofEvents 0 g.frame.fn g.frame.place #[ConcR.mk (.acquire p.stA)],op.g=0/\op.act = .mark (.acquire p.stA):=by
  intro op J;rw[oJ] at J;simp only[mem_toArray,mem_cons,not_mem_nil,or_false] at J;subst J;exact⟨rfl,rfl⟩
 have hG:=zT (g:=g) (M':=Nx) (Gi:=λ_ _ _=>False) (jQ:=0) hW (r':=.run true Nx g' (W.at d) O) (u:=MemOp.ofEvents 0 g.frame.fn g.frame.place #[ConcR.mk (.acquire p.stA)]) g' e rfl (λ_ _=>rfl) hW.fx (λ_ h=>h)
  (λop J=>⟨(ops op J).1,λx hx=>by rw[(ops op J).2] at hx;cases hx⟩) (λop J=>.none (λa=>by rw[(ops op J).2];exact λh=>by cases h) (by rw[(ops op J).2];rfl)) (by rw[Deaf_own,d0];rfl) ⟨.inl rfl,rfl,rfl,rfl,hr,.stop λI H=>Ã I H,.refl ..⟩
 have key:∀j,j≠0->j<gs.size->(¬ (p.dg Sw h0 J0 N sg Nx (λ_ _ _=>False) 0).L j)/\HO (t++MemOp.ofEvents 0 g.frame.fn g.frame.place #[ConcR.mk (.acquire p.stA)]) j:=by
  intro j Z Μ;have nl:¬ (p.dg Sw h0 J0 N sg (MS.stop p Nx sd M1 .acq) (MS.iw p Nx .acq) 0).L j:=by
   rintro (h1|⟨h1,h2,h3⟩)
   ·exact Z h1
   ·have:=h7 j h1 h2;omega
  refine⟨nl,?_⟩;obtain⟨r,hr⟩:∃r,rl[j]? = some r:=⟨rl[j]'(by rw[h.len];exact Μ),eO⟩;have hT:if J0<=j then 3<=sg j->Rl p.stA t j else HO t j:=by
   match r,h.fit j r gs[j] hr (by simp[Μ]) with
   | .run ..,⟨a,_⟩=>exact absurd a nl
   | .idle ..,⟨a,_⟩=>exact absurd a nl
   | .quit _,⟨_,a,_⟩=>exact a
  split at hT
  ·rename_i hJj;rw[oJ];exact Ui (hT (by have:=h7 j hJj (hN ▸ Μ);omega)) Z (h.wi.pY.1 _) d0 ⟨rfl,rfl⟩
  ·exact hT.app λop J _=>by rw[(ops op J).2];rfl
 refine nx _ _ _ (rl.set 0 (.run true Nx g' (W.at d) O)) ?_ (by simpa using hN) ϯ Ŷ;have sz:((gs.map (Conc.woken p.P g g' (W.at d))).setIfInBounds 0 g').size=N:=by simpa using hN
 constructor
 ·exact hG.len
 ·refine⟨?_,?_,λj Z=>?_,by show EY q.Sw _;rw[hS];exact hG.wi.pY⟩
  ·show Ap q.Sw _ _ q.Ro;rw[hS,fI];exact hG.wi.ap
  ·show TI q.Sw _ _ _ q.Ro _ _;rw[hS,fI];refine hG.wi.ti.fewer λk hk=>?_
   rcases hk with hk|⟨h1,h2⟩
   ·exact .inl hk
   ·rw[sz] at h2;have h1:q.J0<=k:=h1;omega
  ·have ϧ:j=0:=by
    rcases Z with hk|⟨h1,h2⟩
    ·exact hk
    ·rw[sz] at h2;have h1:q.J0<=j:=h1;omega
   subst ϧ;rw[hG.wi.deaf 0 (.inl rfl)];simp[Pl.D,Gp.dg,hd]
 ·intro hh;have hh:q.J0<_:=hh;omega
 ·intro hh;have hh:q.J0<_:=hh;omega
 ·intro hh;have hh:q.J0<_:=hh;omega
 ·exact λ_ _ _ _=>rfl
 ·refine⟨_,_,List.getElem?_set_self ŀ,get_set_same (by simpa using h.pos) _,rfl,hM.symm,rfl,hr,?_,.refl ..⟩;show Runs q.P true q.Ro Nx g' (W.at d) O;rw[hP,fI];exact .stop λI H=>Ã I H
 ·intro j r x Z M e2;have Μ:j<gs.size:=by
   have:=(Array.getElem?_eq_some_iff.1 e2).1;simpa using this
  obtain⟨k1,k2⟩:=key j Z Μ;match r,hG.fit j r x M e2 with
  | .run ..,⟨a,_⟩=>exact absurd a k1
  | .idle ..,⟨a,_⟩=>exact absurd a k1
  | .quit _,⟨_,_,a⟩=>
   refine⟨by show j<q.J0;omega,?_,k2⟩;show QuitsD q.P _ _ _;rw[hP];exact (a.resolve_right λh=>k1 h.1).2
 ·intro j i U;cases U
 ·intro j j' i U;cases U
 ·intro i U;omega
 ·intro i U;cases U
 ·exact nodup_nil
 ·exact zero_le _
 ·intro hh;have hh:0<q.n:=hh;omega
 ·intro g1 w1 O1 M;rw[List.getElem?_set_self ŀ] at M;cases M
end
end Px
namespace Px
open Go Go.Conc
def jB(c:Nat):Array Event:=#[⟨.obj c,false,true⟩,⟨.obj c,true,true⟩]
def MCl(p:Gp)(N1:aR):aR:=λg w O=>mayWake p.P g=true/\∀s,kW w p.cn s->∃g' w',stepG p.P true g w = .go g' w' (jB p.cn)/\Shut w' p.cn s/\w'.heap.size=w.heap.size/\(∀b,b≠p.cn->w'.heap[b]? = w.heap[b]?)/\(w'.os=w.os/\w'.output=w.output)/\g'.status = .running/\Runs p.P true p.Ro N1 g' w' O
theorem Pe{H:Type}{P:Nat->H->Prop}:∀N,(∀j,j<N->∃r,P j r)->∃l:List H,l.length=N/\∀j r,l[j]? = some r->P j r
 | 0,_=>⟨[],rfl,λj r h=>by simp at h⟩
 | N+1,h=>by
  obtain⟨l,h1,I⟩:=Pe N λj e=>h j bB
  obtain⟨r,hr⟩:=h N bB;refine⟨l ++ [r],by simp[h1],λj r' e=>?_⟩;by_cases J:j<N
  ·rw[List.getElem?_append_left bB] at e;exact I j r' e
  ·rw[List.getElem?_append_right bB] at e;have:j-l.length=0:=by
    have:=(List.getElem?_eq_some_iff.1 e).1;simp at this;omega
   rw[this] at e;cases e;have:j=N:=bB
   rw[this];exact hr
theorem Pf{J0:Nat}:∀N,J0<=N->cnt (λ_=>0) J0 N=N-J0
 | 0,h=>by simp[cnt,lu]
 | N+1,h=>by
  by_cases e:J0=N+1
  ·subst e;exact (LQ λk h1 H=>bB).trans bB
  ·have:=Pf (J0:=J0) N bB;unfold cnt at this ⊢;simp only[lu];rw[this];simp
   rw[if_pos bB];omega
section
variable {p:Gp} {Nx:aR} {sd:Array Event} {M1:aR} {N:Nat} {Q:Machine->Outcome->World->Trace->Prop} {q:Pl} {gs:Array Goroutine} {W:World} {t:Trace} {rl:List bW} {tk:Nat->Option Nat} {next:Nat} {got:List Nat}
theorem BZ{hh:Nat->Option Obj}(Ŷ:∀b,q.Sw b->b≠p.cn->b≠p.Wg->W.heap[b]? = hh b)(h:G2 q gs W t rl tk next got)(o:q.Ok)(Ϝ:got.length=q.n)(hP:q.P=p.P)(fI:q.Ro=p.Ro)(Ū:q.cn=p.cn)(hdm:q.dm=0)(c:Ctx p Nx sd M1 q.Sw q.J0 N)(la:Dv p Nx sd M1 q.Sw q.J0 N hh Q)(hN:gs.size=N)(hJ:q.J0<gs.size)(ϯ:p.at W (((N-q.J0:Nat):Int)*ConcR.KK) 0)
  (hC:∀g w O,q.AtR g w O->qc p g/\∀g1 cs sh w',stepG p.P false g w' = .comm g1 cs true sh w' #[]->qc p { g1 with status:=.running,offers:=some (cs,sh) }) {S:aR} {g:Goroutine} {w:World} {O:Nat->Prop} (hj:rl[0]? = some (.run true S g w O)) (hg:gs[0]? = some g) (d:Nat) (sl:Option (Nat×Nat)) (Ϗ:MCl p (vZ p M1) g (W.at d) O):iQ p.P Q gs W t 0 d sl:=by
 obtain⟨s,hc⟩:=h.qN hJ;obtain⟨mw,Ϗ⟩:=Ϗ;obtain⟨g',W',e1,í,size,U,jU,hr,hR⟩:=Ϗ s (by rw[<-Ū];exact hc);have size:W'.heap.size=W.heap.size:=size;have U:∀b,b≠p.cn->W'.heap[b]? = W.heap[b]?:=U;have hnt:∀j,tk j=none:=by
  intro j;cases hj:tk j with
  | none=>rfl
  | some i=>
   obtain⟨_,_,hi,hm⟩:=h.qm j i hj;have:(i::got).Nodup:=nodup_cons.2 ⟨hm,h.gn⟩;have:=this.length_le_of_subset (l₂:=List.range next) λx J=>mem_range.2 (by
    rcases mem_cons.1 J with rfl|J
    ·exact hi
    ·exact h.gb x J)
   rw[length_range] at this;have:=h.nn;simp only[length_cons] at *;omega
 refine .inl ⟨_,_,_,runT_crowd_go hg (by exact e1),?_⟩;have u1:∀op∈MemOp.ofEvents 0 g.frame.fn g.frame.place (jB p.cn),op=⟨0,g.frame.fn,g.frame.place,.access ⟨.obj p.cn,false,true⟩⟩\/op=⟨0,g.frame.fn,g.frame.place,.close p.cn⟩:=by
  intro op I;simp only[MemOp.ofEvents,jB] at I;simpa [MemAct.ofEvent] using I
 have u0:∀op∈MemOp.ofEvents 0 g.frame.fn g.frame.place (jB p.cn),op.g=0:=λop I=>by rcases u1 op I with rfl|rfl<;>rfl
 have us:∀k,Deaf (t++MemOp.ofEvents 0 g.frame.fn g.frame.place (jB p.cn)) k=Deaf t k:=λk=>ConcN.Deaf_still t k _ λop I=>by
  rcases u1 op I with rfl|rfl<;>exact⟨(λh=>by cases h),λh=>by cases h⟩
 have Ě:∀x:Goroutine,Conc.woken p.P g g' W' x=x.again W':=λx=>by
  unfold Conc.woken;rw[mw,hr];rfl
 have keep:∀(k:Nat) (r:bW),rl[k]? = some r->Keep p.Ro r.own W W':=λk r hk=>⟨Nat.le_of_eq size.symm,λb H=>U b λe=>by
  subst e;rcases H with H|H
  ·exact h.wi.ap.qM _ (by rw[fI];exact H) c.cn
  ·exact h.wi.ap.sw k _ ⟨r,hk,H⟩ c.cn,jU⟩
 have nd:(tV p Nx sd M1 q.Sw (λb=>W'.heap[b]?) q.J0 N (λ_=>0) .xJ).D=λ_=>0:=by
  funext j;simp[Gp.dg,MS.dm]
 have hs:=Gp.za (W':=W') (show p.sit (λ_=>0) q.J0 N W .xJ from ⟨λ_ _ _=>.inl (zero_le _),by rw[Pf N bB];exact ϯ⟩) (U _ (Ne.symm c.ne));obtain⟨rl',h1,h2⟩:=Pe (P:=λj r'=>(∀b,r'.own b->dP rl j b)/\∃x',((gs.map (Conc.woken p.P g g' W')).setIfInBounds 0 g')[j]? = some x'/\l9 (tV p Nx sd M1 q.Sw (λb=>W'.heap[b]?) q.J0 N (λ_=>0) .xJ) j r' x' W' (t++MemOp.ofEvents 0 g.frame.fn g.frame.place (jB p.cn))) N λj kH=>by
  by_cases Z:j=0
  ·subst Z;exact⟨.run true (vZ p M1) g' W' O,λb H=>⟨_,hj,H⟩,g',get_set_same (by simp;omega) _,.inl rfl,rfl,rfl,rfl,hr,hR,.refl ..⟩
  ·obtain⟨r,o8⟩:∃r,rl[j]? = some r:=⟨rl[j]'(by rw[h.len];omega),eO⟩;obtain⟨x,J⟩:∃x,gs[j]? = some x:=⟨gs[j]'bB,eO⟩;have hf:=h.work j r x Z o8 J;rw[hnt j] at hf;have M:((gs.map (Conc.woken p.P g g' W')).setIfInBounds 0 g')[j]? = some (x.again W'):=by
    rw[cZ (Ne.symm Z),Array.getElem?_map,J,Option.map_some,Ě]
   have hm:(j==0)=false:=beq_eq_false_iff_ne.2 Z;match r,hf with
   | .run m S g w O,⟨a,b,c',d',e,f,k⟩=>
    subst b c';refine⟨.run false (λg _ _=>(0:Nat)=0/\qc p g) g w O,λb H=>⟨_,o8,H⟩,_,M,.inr ⟨a,kH,zero_le _⟩,hm.symm,by simp[Gp.dg,Z],by rw[jZ (.inl e)];exact d',by rw[jZ (.inl e)];exact e,?_,?_⟩
    ·have f:Runs p.P false p.Ro q.AtR g w O:=by rw[<-hP,<-fI];exact f
     exact f.bind λg w O Ϗ=>.stop λw₁ hk=>⟨rfl,(hC g w₁ O (Ϗ w₁ hk)).1⟩
    ·exact (fI ▸ k).trans (keep j _ o8)
   | .idle g w O,⟨a,b,k,e⟩=>
    obtain⟨g1,e2,_⟩:=o.hR _ _ _ (e w (.refl ..));have LV:=b.cases e2;have ĵ:x.again W' = { g1 with status:=.running,offers:=some (#[q.cR],.recv true) }:=by
     rw[QY (c:=q.cR) (sh:=.recv true) (r:=p.cn) (s:=s) (by rw[LV]) (by rw[LV]) (by show CommCase.chan _=_;simp only[Pl.cR,Ū]) í,LV]
    refine⟨.idle (x.again W') W' O,λb H=>⟨_,o8,H⟩,_,M,.inr ⟨a,kH,zero_le _⟩,.inl rfl,.inl (by rw[ĵ]),.refl ..,?_⟩;show if j=0 then _ else _
    rw[if_neg Z,ĵ];exact⟨rfl,(hC g w O (e w (.refl ..))).2 g1 _ _ w (by rw[<-hP];exact e2)⟩
   | .quit n,⟨a,b,e⟩=>
    have ha:x.again W'=x:=jZ (j3 b);refine⟨.quit n,λb H=>H.elim,_,M,Z,?_,.inl ⟨?_,?_⟩⟩
    ·show if q.J0<=j then _ else _
     rw[if_neg bB];exact e.app λop I e=>absurd (e.symm.trans (u0 op I)) Z
    ·rintro (h1|⟨h1,_⟩)
     ·exact Z h1
     ·omega
    ·rw[ha,us];show QuitsD p.P _ _ _;rw[<-hP];exact b
 have ow:∀k b,dP rl' k b->dP rl k b:=λk b ⟨r,h3,h4⟩=>(h2 k r h3).1 b h4
 obtain⟨A',T'⟩:=TI.give (u:=MemOp.ofEvents 0 g.frame.fn g.frame.place (jB p.cn)) (n':=W'.heap.size) h.wi.ap h.wi.ti (g:=0) (.inl rfl) (by rw[h.len];omega) (Nat.le_of_eq size.symm) (λb H=>H) (λb H=>.inl H) (Own':=dP rl') (λk b hk=>.inl (ow k b hk)) (λk b hk=>h.wi.ap.sw _ _ (ow k b hk)) λop I=>⟨u0 op I,λx J=>.inl (by
  rcases u1 op I with rfl|rfl
  ·cases J;exact⟨⟨_,rfl,c.cn⟩,(λh=>by cases h),λh=>by cases h⟩
  ·cases J)⟩
 refine Ur (s:=s) c la _ (λ_=>0) .xJ (λb=>W'.heap[b]?) _ _ _ rl' (Nat.lt_succ_self _) ⟨by simp[h1,hN],⟨?_,?_,λj hl=>?_,qb h.wi.pY λop I=>?_⟩,λ_ _=>rfl,λj r x e2 e3=>?_,by simp;omega⟩ (by simpa using hN) hs ⟨í,λb h1 h2 h3=>(U b h2).trans (Ŷ b h1 h2 h3)⟩
 ·rw[fI] at A';exact A'
 ·rw[fI] at T';rw[h1,<-hN,<-h.len];refine T'.fewer λk hk=>?_
  rcases hk with hk|⟨h3,h4,_⟩
  ·exact .inl hk
  ·exact .inr ⟨h3,h.len ▸ h4⟩
 ·rw[nd,us,h.wi.deaf j (by
   rcases hl with hk|⟨h1,h2,_⟩
   ·exact .inl hk
   ·exact .inr ⟨h1,bB⟩)]
  simp[Pl.D,hdm]
 ·rcases u1 op I with rfl|rfl
  ·exact⟨(λa h=>by cases h),λx J=>by cases J;exact .inl ⟨_,rfl,c.cn⟩⟩
  ·exact .none (λa h=>by cases h) rfl
 ·obtain⟨_,x',M,hf⟩:=h2 j r e2;rw[M] at e3;cases e3;exact hf
end
