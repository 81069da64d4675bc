import Derived.Test.YtnonoiafongllaaGreatDoorP
import Derived.Conc.Beside
set_option maxRecDepth 100000
set_option maxHeartbeats 2000000
open Nat (le_refl le_trans lt_of_lt_of_le not_lt_zero zero_le)
open List
open Go.Proofs.Tryz
namespace Px
open Go Go.Conc
inductive mg (P:Program) (Ro:Nat->Prop) (Stop:aR):Goroutine->World->(Nat->Prop)->Prop
 | stop {g:Goroutine} {w:World} {O:Nat->Prop}:(∀d,Stop g (w.at d) O)->mg P Ro Stop g w O
 | step {g:Goroutine} {w:World} {O:Nat->Prop}:(∀d,∃g' w' es,stepG P true g (w.at d) = .go g' w' es/\g'.status = .running/\nT Ro O (w.at d) w' es) ->
   (∀d g' w' es,stepG P true g (w.at d) = .go g' w' es->mg P Ro Stop g' w' (grow O (w.at d) w'))->mg P Ro Stop g w O
theorem mg.mono{P:Program}{Ro:Nat->Prop}{S S':aR}{g:Goroutine}{w:World}{O:Nat->Prop}(h:mg P Ro S g w O)(e:∀g w O,S g w O->S' g w O):mg P Ro S' g w O:=by
 induction h with
 | stop h=>exact .stop λd=>e _ _ _ (h d)
 | step h1 _ ih=>exact .step h1 ih
theorem Dw{P:Program}{Ro:Nat->Prop}{S:aR}:Way P true Ro S True (λ_ w H=>∃d,H=w.at d) (mg P Ro S) where
 keep:=by rintro O w H ⟨d,rfl⟩;exact⟨le_refl _,λ_ _=>rfl,rfl,rfl⟩
 size:=by rintro _ O w H ⟨d,rfl⟩;rfl
 stop:=λh=>.stop λd=>h _ ⟨d,rfl⟩
 step:=λI J=>.step (λd=>I _ ⟨d,rfl⟩) λd g' w' es e=>J _ g' w' es ⟨d,rfl⟩ e
theorem Z4{Ro Sw O:Nat->Prop}{W W':World}{d:Nat}{es:Array Event}(J:nT Ro O (W.at d) W' es)(ù:∀b,Ro b->b<W.heap.size/\¬ Sw b)(Z:∀b,O b->b<W.heap.size/\¬ Sw b)(hs:∀b,Sw b->b<W.heap.size):(∀b,grow O (W.at d) W' b->b<W'.heap.size/\¬ Sw b)/\∀e,e∈es->Yu Sw W' e:=by
 have U:∀b,grow O (W.at d) W' b->b<W'.heap.size/\¬ Sw b:=λb I=>by
  rcases I with I|⟨M,h2⟩
  ·exact⟨lt_of_lt_of_le (Z b I).1 J.size,(Z b I).2⟩
  ·exact⟨h2,λh=>by have:=hs b h;have M:W.heap.size<=b:=M;omega⟩
 refine⟨U,λe he=>?_⟩;have no:∀ {b:Nat},Ro b\/grow O (W.at d) W' b->b<W'.heap.size/\¬ Sw b:=λh=>h.elim (λh=>⟨lt_of_lt_of_le (ù _ h).1 J.size,(ù _ h).2⟩) (U _)
 cases J.evs e he with
 | read h=>exact⟨λx H=>by cases H;exact .inr ⟨_,rfl,rfl,no h⟩,λa h=>by cases h⟩
 | write h=>exact⟨λx H=>by cases H;exact .inr ⟨_,rfl,rfl,no (.inr h)⟩,λa h=>by cases h⟩
 | sO h=>exact⟨λx H=>by cases H;exact .inr ⟨_,rfl,rfl,no h⟩,λa h=>by cases h⟩
 | o7 h=>exact⟨λx H=>by cases H;exact .inr ⟨_,rfl,rfl,no (.inr h)⟩,λa h=>by cases h⟩
 | room=>exact⟨λx H=>(by cases H),λa h=>by cases h⟩
 | ext f=>exact⟨λx H=>(by cases H),λa h=>by cases h⟩
def LW:List bW->Nat
 | []=>0
 | .quit q::l=>q+LW l
 | _::l=>LW l
theorem Pg:∀(l:List bW) (j q:Nat),l[j]? = some (.quit (q+1))->LW (l.set j (.quit q))<LW l
 | [],_,_,h=>by simp at h
 | r::l,0,q,h=>by
  simp at h;subst h;simp[LW]
 | r::l,j+1,q,h=>by
  have:=Pg l j q (by simpa using h);cases r<;>simp only[set_cons_succ,LW]<;>omega
section
variable {P:Program} {Sw:Nat->Prop} {dm:Nat} {gs:Array Goroutine} {W:World} {t:Trace} {g:Goroutine} {Q:Machine->Outcome->World->Trace->Prop}
theorem Al.sure(A:Al P Sw dm gs W t g)(ex:∀H t' d,Al P Sw dm H (W.at d) t' g->H.size=gs.size->∀d' sl,iQ P Q H (W.at d) t' 0 d' sl):gK P Q gs W t:=by
 have iO:=(Array.getElem?_eq_some_iff.1 A.main).1;have hr:=A.run;have I:=A.main;obtain⟨e,_,h⟩:=A.own (Ro:=EZ) (O:=Mine Sw W) (LG P Sw dm gs.size W λg' _ _=>g'=g) rfl rfl rfl rfl rfl rfl rfl (λ_ h=>h.elim) (λb h=>⟨h.1,h.2,id⟩) (.stop λ_ _=>rfl);generalize hJ:gs.size=J at h ex;have hJ1:1<=J:=bB;have key:∀(n:Nat) (gs:Array Goroutine) (U:Nat) (t:Trace) (e:List bW),gs.size=J->gs[0]? = some g->G2 (LG P Sw dm J W λg' _ _=>g'=g) gs (W.at U) t e (λ_=>none) 0 []->LW e=n->gK P Q gs (W.at U) t:=by
  intro n;induction n using Nat.strongRecOn with
  | ind n ih=>
   intro gs U t e hz I h hn;refine Ip h.awake ⟨0,g,I,hr⟩ λi x d sl M ϳ=>?_
   cases i with
   | zero=>
    rw[I] at M;cases M;exact ex gs t U ⟨⟨_,e,h,rfl,rfl,rfl,hz.symm⟩,I,hr⟩ hz d sl
   | succ i=>
    have hW:=h.at d;obtain⟨ύ,_⟩:=Array.getElem?_eq_some_iff.1 M;obtain⟨r,Z⟩:∃r,e[i+1]? = some r:=⟨e[i+1]'(by rw[h.len];exact ύ),eO⟩;match r,Z,h.work (i+1) r x bB Z M with
    | .run ..,_,⟨a,_⟩=>exact absurd (show J<=i+1 from a) bB
    | .idle ..,_,⟨a,_⟩=>exact absurd (show J<=i+1 from a) bB
    | .quit q,Z,_=>
     obtain⟨g',es,q',rfl,e1,hG⟩:=hW.leave Z M ϳ;have hG:=hG x.frame.fn x.frame.place;refine .inl ⟨_,_,_,runT_crowd_go M (e1 _),?_⟩;have hw:gs.map (Conc.woken P x g' (W.at d))=gs:=G2.woken (Ud hJ1) h (λh=>absurd (show J<gs.size from h) bB) (λh=>absurd (show J<gs.size from h) bB) x g';rw[show ((W.at U).at d)=W.at d from rfl,hw];exact ih _ (hn ▸ Pg e (i+1) q' Z) _ d _ _ (by simpa using hz) (by rw[Array.getElem?_setIfInBounds_ne bB];exact I) hG rfl
 exact key _ gs W.drawn t e hJ I h rfl
end
variable {F:Fs} {P:Program} {k:Ok}
theorem aeD(S:Setup F P k){base:Nat}{I:Bl}{cs0:List Frame}{M:Nat->Prop}(Ú:GB F P k I)(fI:∀a b,I a b->M b)(ç:∀b,M b->base<=b)
  (hin:∀f,F.fk f->P.inits.idxOf? f=none) {wL w:World} {ā:Array Obj} (H:HR F (KK P k) base I ā w.heap) {b:Frame} {a a':Act} {c:Code} (hc:dR P k c=true) (hK:∃x K,k.K = .code x::K) (hb:F.fk b.fn) (ķ:b.kind = .normal)
  (ht:aX F I a.tmps a'.tmps) (hd:a.defers = []) (hd':a'.defers = []) (U PR:Act->Array Obj->Prop)
  (J:∃Z:Frame,P.funcs[Z.fn]? = none/\Z.defers = []/\∀l,(Z.raise l).catches P=true)
  (C:∀T d,c.wp P (λe a w=>a.defers = []/\((e = .normal/\U a w.heap)\/(e = .ret/\PR a w.heap))) a (at_ wL ā T d)) :
  mg P EZ (Ky F P k base I b cs0 U PR) (Conc.G (b.at a' (.code c::k.K)) cs0) w M:=
 (Gb S Ú (λa b h=>.inr (fI a b h)) (λ_ h=>h.elim) ç hin H hc hK hb ķ ht hd hd' U PR Dw (λ_=>trivial) J C).mono λ_ _ _ h=>EW ķ h
open Classical
noncomputable def lQ(F:Fs)(X:Nat->Prop)(h:Array Obj):Array Obj:=h.mapIdx λb o=>if X b then (match o with | .cells xs t z=>.cells (if F.cut b then #[] else xs.map (jn F X)) t z|o=>o) else o
theorem Ca{X:Nat->Prop}{h:Array Obj}:(lQ F X h).size=h.size:=by simp[lQ]
theorem Dy{X:Nat->Prop}{h:Array Obj}{b:Nat}{H:Array Value}{t:TypeId}{z:Nat×Nat}(hr:X b)(hc:¬ F.cut b)(e:h[b]? = some (.cells H t z)):(lQ F X h)[b]? = some (.cells (H.map (jn F X)) t z):=by
 unfold lQ;rw[Array.getElem?_mapIdx,e];simp[hr,hc]
theorem Fe{X:Nat->Prop}{h:Array Obj}{b:Nat}{H:Array Value}{t:TypeId}{z:Nat×Nat}(hr:X b)(hc:F.cut b)(e:h[b]? = some (.cells H t z)):(lQ F X h)[b]? = some (.cells #[] t z):=by
 unfold lQ;rw[Array.getElem?_mapIdx,e];simp[hr,hc]
def YA(F:Fs)(X:Nat->Prop)(h:Array Obj):Prop:=∀b,F.cut b->X b/\F.co b=h[b]? /\ ∃xs t,h[b]? = some (.cells xs t (0,0))/\xs.size≠0
theorem HR.ahf{X:Nat->Prop}{h:Array Obj}{K:Cs}(hc:∀b,X b->∃I t z,h[b]? = some (.cells I t z))(hG:F.G<h.size)(J:YA F X h):HR F K 0 (mO X) (lQ F X h) h where
 left:=by rintro a b M ⟨rfl,_⟩ ⟨rfl,_⟩;rfl
 right:=by rintro a a' b ⟨rfl,_⟩ ⟨rfl,_⟩;rfl
 obj:=by
  rintro a b ⟨rfl,hr⟩;by_cases H:F.cut a
  ·obtain⟨_,_,I,t,e,hn⟩:=J a H;exact⟨_,_,Fe hr H e,e,.inr ⟨H,I,t,rfl,rfl,hn⟩⟩
  ·obtain⟨I,t,z,e⟩:=hc a hr;exact⟨_,_,Dy hr H e,e,.inl (.cells t ⟨eO,λi U Z=>by rw[Array.getElem_map];exact Kz _⟩ (.inl rfl))⟩
 ro:=λ_ b _ h=>absurd h (not_lt_zero b)
 base:=zero_le _
 lo:=by rw[Ca];exact hG
 lo2:=hG
 yT:=λ_=>⟨Ca,λ_ _ h=>h.1⟩
 co:=λb H=>⟨⟨rfl,(J b H).1⟩,(J b H).2.1.symm⟩
 qH:=by
  rintro a b ⟨rfl,hr⟩ H;obtain⟨_,_,I,t,e,hn⟩:=J a H;exact⟨I,t,Fe hr H e,e,hn⟩
theorem Pv.yT{B:Bl}{Ro:Nat->Prop}(hB:∀a b,B a b->a=b){v:Value}(hv:Pv F Ro v):∀ {e},VR F B v e->e=v:=by
 have I:∀ {x z:Addr},AR F B x z->z=x:=fun {x z} H=>by
  have:=hB _ _ H.block;obtain⟨b1,o1,s1⟩:=x;obtain⟨b2,o2,s2⟩:=z;have M:=H.off;have U:=H.spot;dsimp only at this M U;subst this M U;rfl
 induction hv with
 | bool b=>intro e h;cases h;rfl
 | int k n=>intro e h;cases h;rfl
 | string s=>intro e h;cases h;rfl
 | dB=>intro e h;cases h;rfl
 | ptr hr=>
  intro e h;cases h with
  | ptr H=>rw[I H]
 | dK n c=>intro e h;cases h;rfl
 | sl n c hr=>
  intro e h;cases h with
  | sl _ _ H=>rw[I H]
  | sl0=>rfl
 | sl0 a=>
  intro e h;cases h with
  | sl0=>rfl
  | sl _ _ H=>rw[I H]
 | func hf=>
  intro e h;cases h with
  | @func _ _ zs _ ws _ J g2 g3 g4=>
   have Z:zs=#[]:=Array.eq_empty_of_size_eq_zero J.symm;have e2:ws=#[]:=Array.eq_empty_of_size_eq_zero g2.symm;rw[Z,e2]
 | nilFunc=>intro e h;cases h;rfl
 | nilIface=>intro e h;cases h;rfl
 | iface t _ ih=>
  intro e h;cases h with
  | iface _ h=>rw[ih h]
 | agg _ ih=>
  intro e h;cases h with
  | @agg _ zs J g2=>
   congr 1;apply Array.ext J.symm;intro i a b;exact ih i b (g2 i b a)
end Px
namespace Px
open Go Go.Conc
section
variable {P:Program} {Sw:Nat->Prop} {dm:Nat} {gs:Array Goroutine} {W:World} {t:Trace} {g:Goroutine}
theorem Al.good(A:Al P Sw dm gs W t g){e:Value->World->Prop}{v:Value}{w':World}(hp:e v w')(sl:Option (Nat×Nat)):Conc.Good P e (crowd gs W sl) (.done v) w' t:=by
 obtain⟨⟨p,rl,h,rfl,rfl,rfl,hJ⟩,hg,hr⟩:=A;have J:∀k,k≠0->∀x,gs[k]? = some x->∃n,QuitsD p.P n (Deaf t k) x/\HO t k:=by
  intro k hk x H;have ύ:=(Array.getElem?_eq_some_iff.1 H).1;obtain⟨r,hr'⟩:∃r,rl[k]? = some r:=⟨rl[k]'(by rw[h.len];exact ύ),eO⟩;match r,h.work k r x hk hr' H with
  | .run ..,⟨a,_⟩=>omega
  | .idle ..,⟨a,_⟩=>omega
  | .quit n,⟨_,b,c⟩=>exact⟨n,b,c⟩
 refine⟨v,rfl,hp,h.wi.ti.nr,λi k I hk hc=>?_,⟨λx H=>?_,rfl⟩,λi x H I=>?_⟩
 ·have hk':∃op,t[i]? = some op/\op.g=k:=by
   unfold Trace.g? at I;cases M:t[i]? with
   | none=>rw[M] at I;cases I
   | some op=>rw[M] at I;exact⟨op,rfl,by simpa using I⟩
  obtain⟨op,M,rfl⟩:=hk';have ύ:=h.wi.ti.gs i op M;obtain⟨x,H⟩:∃x,gs[op.g]? = some x:=⟨gs[op.g]'(by rw[<-h.len];exact ύ),eO⟩;obtain⟨_,_,hho⟩:=J _ hk x H;obtain⟨q,y,U,h2,Z⟩:=hho i (by rw[Trace.g?,M];rfl) hc;rcases Z with rfl|Z
  ·rw[M] at U;cases U;exact absurd h2 hk
  ·exact⟨q,by rw[Trace.g?,U];exact congrArg some h2,Z⟩
 ·obtain⟨k,hk⟩:=mem_iff_getElem?.1 H;rw[List.getElem?_drop] at hk;have hk:gs.toList[1+k]? = some x:=hk;rw[Array.getElem?_toList] at hk;obtain⟨n,hq,_⟩:=J (1+k) bB x hk;exact⟨n,hq.leaves⟩
 ·obtain⟨n,hq,_⟩:=J i I x H;exact⟨n,hq.hears W⟩
theorem Al.last(A:Al P Sw dm gs W t g){d:Nat}{sl:Option (Nat×Nat)}{e:Value->World->Prop}{v:Value}(I:stepG P true g (W.at d) = .ended (.done v) (W.at d))(J:e v (W.at d)):iQ P (Conc.Good P e) gs W t 0 d sl:=by
 refine .inr ⟨_,_,_,runT_many_ended A.main (by exact I),λH=>?_⟩;have:t++MemOp.ofEvents 0 g.frame.fn g.frame.place #[]=t:=by simp[MemOp.ofEvents]
 rw[this];exact A.good J H
end
end Px
namespace Px
open Go Go.Conc
def aM(P:Program)(Q:Machine->Outcome->World->Trace->Prop)(N:Nat)(Sw:Nat->Prop)(dm:Nat)(W:World)(g:Goroutine):Prop:=∀gs t d,gs.size=N->Al P Sw dm gs (W.at d) t g->gK P Q gs (W.at d) t
theorem aac{w:World}{a:Addr}{v:Value}(h:w.cell? a=some v):a.block<w.heap.size:=by
 refine Decidable.byContradiction λhn=>?_
 have e:w.heap[a.block]? = none:=by simp;omega
 simp[World.cell?,e] at h
def Uz(Sw:Nat->Prop)(W:World)(e:Event):Prop:=∃a wr,e=⟨.cell a,wr,false⟩/\a.block<W.heap.size/\¬ Sw a.block
theorem Uz.ok{Sw:Nat->Prop}{W:World}{e:Event}(h:Uz Sw W e):Yu Sw W e:=by
 obtain⟨a,wr,rfl,H,I⟩:=h;exact⟨λx J=>by cases J;exact .inr ⟨_,rfl,rfl,H,I⟩,λa h=>by cases h⟩
section
variable {P:Program} {Q:Machine->Outcome->World->Trace->Prop} {N:Nat} {Sw aI:Nat->Prop} {dm jQ:Nat} {W W':World} {g g':Goroutine}
theorem aM.at(h:aM P Q N Sw dm W g)(d:Nat):aM P Q N Sw dm (W.at d) g:=λgs t e H A=>h gs t e H A
theorem aM.step(h:∀d,∃g' W' es,stepG P true g (W.at d) = .go g' W' es/\W.heap.size<=W'.heap.size/\(W'.os=W.os/\W'.output=W.output)/\(∀b,Sw b->aI b)/\(∀b,aI b->Sw b\/(W.heap.size<=b/\b<W'.heap.size))/\(∀e,e∈es->Yu aI W' e)/\deafBehind dm es=jQ/\g'.status = .running/\aM P Q N aI jQ W' g'):aM P Q N Sw dm W g:=by
 intro gs t d hz A;refine A.sure λgs' t' d1 A' hz' J sl=>?_
 obtain⟨g',W',es,Z,h1,he,h2,h3,h4,h5,h6,h7⟩:=h J;exact A'.step (d:=J) Z h1 he h2 h3 h4 h5 h6 λH I M U=>h7 H I W'.drawn bB M
theorem fB:bR P true (aM P Q N Sw dm W):=⟨fun {g g'} J H I hn=>.step λd=>⟨g',W.at d,#[],I _,le_refl _,⟨rfl,rfl⟩,λ_ h=>h,λ_ h=>.inl h,λe he=>by simp at he,rfl,H,hn.at d⟩⟩
variable {b:Frame} {a a':Act} {k:List Item} {cs:List Frame} {ops:Array Oper} {i:Nat} {rest:List Nat} {o:Oper} {v:Value} {d:Option Tmp}
theorem JA{fn:FuncId}{w:World}(he:∀e,e∈Sem.events P (execOp a.eval o) w #[]->Uz Sw W e)(dm:Nat):deafBehind dm (listed P fn a o w)=dm:=
 deafBehind_still (λe H=>by obtain⟨x,wr,rfl,_⟩:=he e (mem_listed H);exact⟨(λh=>(by cases h)),(λh=>(by cases h))⟩) dm
theorem aM.value{W₁:Nat->World}(hr:∀d,Sem.run P (execOp a.eval o) (W.at d) = .ok (.value v) (W₁ d))(s0:∀d,W.heap.size<=(W₁ d).heap.size)(s1:∀b,Sw b->aI b)(s2:∀d b,aI b->Sw b\/(W.heap.size<=b/\b<(W₁ d).heap.size))(he:∀d e,e∈Sem.events P (execOp a.eval o) (W.at d) #[]->Uz aI (W₁ d) e)
  (hn:∀d,aM P Q N aI dm (W₁ d) (G (b.at a' (.inRegion ops rest::k)) cs)) (M:ops[i]? = some o:=by (simp only[List.getElem?_toArray,List.getElem?_cons_zero,List.getElem?_cons_succ];rfl)) (Z:Region.wanted o (yielded ops a.tmps)=true:=by rfl) (H:b.kind ≠ .early:=by decide) (I:o.dst=d:=by rfl)
  (U:a.put d v=a':=by (simp only[Go.Act.put,List.setIfInBounds_toArray,List.set_cons_zero,List.set_cons_succ];rfl)) (jU:∀d,(W₁ d).os=W.os/\(W₁ d).output=W.output:=by intro d;exact⟨rfl,rfl⟩):aM P Q N Sw dm W (G (b.at a (.inRegion ops (i::rest)::k)) cs):=by
 subst I U;exact .step λd=>⟨_,W₁ d,_,stepG_value M Z H (hr d),s0 d,jU d,s1,s2 d,λe J=>(he d e (mem_listed J)).ok,JA (he d) dm,rfl,hn d⟩
theorem aM.none{W₁:Nat->World}(hr:∀d,Sem.run P (execOp a.eval o) (W.at d) = .ok .skip (W₁ d))(s0:∀d,W.heap.size<=(W₁ d).heap.size)(he:∀d e,e∈Sem.events P (execOp a.eval o) (W.at d) #[]->Uz Sw (W₁ d) e)
  (hn:∀d,aM P Q N Sw dm (W₁ d) (G (b.at a (.inRegion ops rest::k)) cs)) (M:ops[i]? = some o:=by (simp only[List.getElem?_toArray,List.getElem?_cons_zero,List.getElem?_cons_succ];rfl)) (U:Region.wanted o (yielded ops a.tmps)=true:=by rfl) (H:b.kind ≠ .early:=by decide) (I:o.dst = .none:=by rfl) (Z:∀d,(W₁ d).os=W.os/\(W₁ d).output=W.output:=by intro d;exact⟨rfl,rfl⟩) :
  aM P Q N Sw dm W (G (b.at a (.inRegion ops (i::rest)::k)) cs):=by
 refine .step λd=>⟨_,W₁ d,_,(stepG_none M U H (hr d)).trans (by rw[I];rfl),s0 d,Z d,λ_ h=>h,λ_ h=>.inl h,λe J=>(he d e (mem_listed J)).ok,JA (he d) dm,rfl,hn d⟩
theorem Al.bound{gs:Array Goroutine}{t:Trace}(A:Al P Sw dm gs W t g):∀b,Sw b->b<W.heap.size:=by
 obtain⟨⟨p,I,h,_,e,_⟩,_⟩:=A;exact λb H=>h.wi.ap.pV b (e ▸ H)
theorem aM.load{t:TypeId}{x:Operand}{ad:Addr}(M:∀w,Sem.run P (isAgg t) w = .ok false w)(J:W.cell? ad=some v)(hs:¬ Sw ad.block)(hn:aM P Q N Sw dm W (G (b.at a' (.inRegion ops rest::k)) cs))(ho:ops[i]? = some o:=by (simp only[List.getElem?_toArray,List.getElem?_cons_zero,List.getElem?_cons_succ];rfl))
  (hw:Region.wanted o (yielded ops a.tmps)=true:=by rfl) (U:b.kind ≠ .early:=by decide) (ό:o.op = .load t x:=by rfl) (I:a.eval x = .pointer (some ad):=by rfl) (Z:o.dst=d:=by rfl)
  (hp:a.put d v=a':=by (simp only[Go.Act.put,List.setIfInBounds_toArray,List.set_cons_zero,List.set_cons_succ];rfl)):aM P Q N Sw dm W (G (b.at a (.inRegion ops (i::rest)::k)) cs):=by
 have e:execOp a.eval o=(do return .value (<-Instr.loadAt t (Value.pointer (some ad)))):=by
  unfold execOp;rw[ό];simp only[I]
 have H:∀d,(W.at d).cell? ad=some v:=λ_=>J
 refine aM.value (W₁:=λd=>W.at d) (λd=>by rw[e];simp[go_sem,M,H d]) (λ_=>le_refl _) (λ_ h=>h) (λ_ _ h=>.inl h) (λd x I=>?_) (λd=>hn.at d) ho hw U Z hp;rw[e] at I;simp[go_sem,M,H d] at I;subst I;exact⟨_,_,rfl,aac J,hs⟩
end
theorem UA{P:Program}{m:Bool}{b:Frame}{a:Act}{k:List Item}{cs:List Frame}{w:World}{ops:Array Oper}{id:Nat}:
  stepG P m (G (b.at a (.code (.region id ops true)::k)) cs) w = .go (G (b.at a (.inRegion ops (Region.schedule (P.follows .mixedOrders) ops (w.tape w.drawn (.order b.fn id)))::k)) cs) (w.at (w.drawn+1)) #[]:=by
 simp[G,stepG,stepG.exec,Frame.at,choose,Sem.run,Question.forced,Question.cut,World.at]
def Ord(md:Region.Mode)(ops:Array Oper):Nat->Array Bool->List Nat->Prop
 | 0,_,l=>l = []
 | n+1,listed,l=>(Region.ready md ops listed = []/\l = [])\/∃i∈Region.ready md ops listed,∃l',l=i::l'/\Ord md ops n (listed.setIfInBounds i true) l'
theorem aad(H:Region.Mode)(ops:Array Oper):∀(fuel t:Nat) (e:Array Bool),Ord H ops fuel e (Region.linearise.go H ops fuel t e []):=by
 intro fuel;induction fuel with
 | zero=>intro t e;simp[Region.linearise.go,Ord]
 | succ fuel ih=>
  intro t e;simp only[Region.linearise.go];change Ord H ops (fuel+1) e (match (Region.ready H ops e)[t % (Region.ready H ops e).length]? with
   | some i=>Region.linearise.go H ops fuel (t / (Region.ready H ops e).length) (e.setIfInBounds i true) [i]
   | none=>[].reverse)
  cases I:(Region.ready H ops e)[t % (Region.ready H ops e).length]? with
  | none=>
   refine .inl ⟨?_,rfl⟩;cases hr:Region.ready H ops e with
   | nil=>rfl
   | cons x xs=>
    rw[hr] at I;have J:t % (x::xs).length<(x::xs).length:=Nat.mod_lt _ eO;simp at I;simp at J;omega
  | some i=>
   simp only[];rw[linearise_go_acc,reverse_singleton,singleton_append];exact .inr ⟨i,mem_of_getElem? I,_,rfl,ih _ _⟩
section
variable {P:Program} {Q:Machine->Outcome->World->Trace->Prop} {N:Nat} {Sw:Nat->Prop} {dm:Nat} {W:World} {b:Frame} {a:Act} {k:List Item} {cs:List Frame} {ops:Array Oper}
theorem aM.drawn(H:P.follows .mixedOrders=true){id:Nat}(hn:∀l,Ord .any ops ops.size (Array.replicate ops.size false) l->aM P Q N Sw dm W (G (b.at a (.inRegion ops l::k)) cs)):aM P Q N Sw dm W (G (b.at a (.code (.region id ops true)::k)) cs):=by
 refine .step λd=>⟨_,W.at (d+1),#[],UA,le_refl _,⟨rfl,rfl⟩,λ_ h=>h,λ_ h=>.inl h,λe he=>by simp at he,rfl,rfl,?_⟩
 simp only[Region.schedule,H,Bool.true_or,if_true];exact (hn _ (aad _ _ _ _ _)).at _
end
end Px
namespace Px
open Go Go.Conc
section
variable {P:Program} {m:Bool} {T:Goroutine->Prop} {b:Frame} {a a':Act} {k:List Item} {cs:List Frame} {ops:Array Oper} {i:Nat} {rest:List Nat} {o:Oper} {v:Value} {d:Option Tmp}
theorem bR.bi(c:bR P m T)(hn:T (G (b.at a' (.inRegion ops rest::k)) cs))(hr:∀w,Sem.run P (execOp a.eval o) w = .ok (.value v) w)(he:∀w,Sem.events P (execOp a.eval o) w #[]=#[])(I:ops[i]? = some o:=by (simp only[List.getElem?_toArray,List.getElem?_cons_zero,List.getElem?_cons_succ];rfl))(M:Region.wanted o (yielded ops a.tmps)=true:=by rfl)(e:b.kind ≠ .early:=by decide)(H:o.dst=d:=by rfl)
  (J:a.put d v=a':=by (simp only[Go.Act.put,Go.Act.eval,Array.getD_eq_getD_getElem?,List.getElem?_toArray,List.getElem?_cons_zero,List.getElem?_cons_succ,Option.getD_some,List.setIfInBounds_toArray,List.set_cons_zero,List.set_cons_succ,List.getElem_toArray,List.getElem_cons_zero,List.getElem_cons_succ];rfl)) :
  T (G (b.at a (.inRegion ops (i::rest)::k)) cs):=by
 subst H J;exact c.step rfl rfl (λw=>by rw[stepG_value I M e (hr w)];unfold listed;rw[he w,seen_none]) hn
end
section
variable {P:Program} {Q:Machine->Outcome->World->Trace->Prop} {N:Nat} {Sw aI:Nat->Prop} {dm:Nat} {W:World} {b:Frame} {a a':Act} {k:List Item} {cs:List Frame} {ops:Array Oper} {i:Nat} {rest:List Nat} {o:Oper} {v:Value} {d:Option Tmp}
theorem aM.make{ob:Obj}{mk:Nat->Value}(ϳ:∀w,Sem.run P (execOp a.eval o) w = .ok (.value (mk w.heap.size)) (w.alloc ob))(ó:∀w,Sem.events P (execOp a.eval o) w #[]=#[])(Z:∀b,Sw b->aI b)(s2:∀b,aI b->Sw b\/b=W.heap.size)
  (hn:aM P Q N aI dm (W.alloc ob) (G (b.at (a.put d (mk W.heap.size)) (.inRegion ops rest::k)) cs))
  (J:ops[i]? = some o:=by (simp only[List.getElem?_toArray,List.getElem?_cons_zero,List.getElem?_cons_succ];rfl)) (M:Region.wanted o (yielded ops a.tmps)=true:=by rfl) (H:b.kind ≠ .early:=by decide) (I:o.dst=d:=by rfl):aM P Q N Sw dm W (G (b.at a (.inRegion ops (i::rest)::k)) cs):=by
 have es:(W.alloc ob).heap.size=W.heap.size+1:=World.size_alloc ..;refine aM.value (W₁:=λd=>(W.alloc ob).at d) (λd=>ϳ (W.at d)) (λd=>by show W.heap.size<=(W.alloc ob).heap.size;omega) Z (λd x U=>(s2 x U).imp id λe=>by show W.heap.size<=x/\x<(W.alloc ob).heap.size;omega) (λd e he=>by rw[ó] at he;simp at he) (λd=>hn.at d) J M H I rfl
theorem aM.store{t tt:TypeId}{x y:Operand}{g off:Nat}{v:Value}{vs:List Value}{cur:Array Value}(â:v.cells=vs.toArray)(U:∀u∈vs,u.oneCell'=true)(M:(P.info? t).map (·.size)=some vs.length)(hS:¬ Sw g)(hc:W.heap[g]? = some (.cells cur tt (0,0)))(hl:off+vs.length<=cur.size)
  (hn:aM P Q N Sw dm (W.setRow g (cur.toList.take off++vs++cur.toList.drop (off+vs.length)).toArray) (G (b.at a (.inRegion ops rest::k)) cs))
  (ho:ops[i]? = some o:=by (simp only[List.getElem?_toArray,List.getElem?_cons_zero,List.getElem?_cons_succ];rfl)) (hw:Region.wanted o (yielded ops a.tmps)=true:=by rfl) (hb:b.kind ≠ .early:=by decide) (ό:o.op = .store t x y:=by rfl) (hx:a.eval x = .pointer (some ⟨g,off,.none⟩):=by rfl) (hy:a.eval y=v:=by rfl) (hd:o.dst = .none:=by rfl):aM P Q N Sw dm W (G (b.at a (.inRegion ops (i::rest)::k)) cs):=by
 have e:execOp a.eval o=(do Instr.storeAt t (Value.pointer (some ⟨g,off,.none⟩)) v;return .skip):=by
  unfold execOp;rw[ό];simp only[hx,hy]
 obtain⟨I,Z,Ν⟩:∃I,P.info? t=some I/\I.size=vs.length:=by
  cases h:P.info? t with
  | none=>rw[h] at M;cases M
  | some I=>rw[h] at M;exact⟨I,rfl,by simpa using M⟩
 have ύ:g<W.heap.size:=(Array.getElem?_eq_some_iff.1 hc).1;refine aM.none (W₁:=λd=>(W.setRow g (cur.toList.take off++vs++cur.toList.drop (off+vs.length)).toArray).at d) (λd=>?_) (λd=>Nat.le_of_eq (by show W.heap.size=(W.setRow g _).heap.size;simp)) (λd y he=>?_) (λd=>hn.at d) ho hw hb hd
 ·have J:=run_storeCells_at P g off tt vs 0 cur (W.at d) hc (by simpa using hl) U;simp only[Nat.add_zero] at J;rw[e];unfold Instr.storeAt storeVar;rw[â];simp[go_sem,Go.sizeOf,typeInfo,Z,Ν,J];rfl
 ·have J:=run_storeCells_at P g off tt vs 0 cur (W.at d) hc (by simpa using hl) U;simp only[Nat.add_zero] at J;rw[e] at he;unfold Instr.storeAt storeVar at he;rw[â] at he;simp[go_sem,Go.sizeOf,typeInfo,Z,Ν] at he;rcases uG g off tt vs 0 cur (W.at d) #[] hc (by simpa using hl) U y he with h|⟨ad',rfl,H⟩
  ·simp at h
  ·exact⟨_,_,rfl,by rw[H];show g<(W.setRow g _).heap.size;simp;exact ύ,by rw[H];exact hS⟩
end
end Px
namespace Px
open Go Go.Conc
def xO(g:Goroutine)(O:Nat->Prop)(F:World->Prop):aR:=λx w O'=>x=g/\O'=O/\F w
def pB(p:Pl)(h:Nat->Option Obj)(dm:Nat)(S:aR):Pl:={ p with h0:=h,dm:=dm,n:=0,fq:=λ_ _=>S }
def BT(p:Pl)(Q:Machine->Outcome->World->Trace->Prop)(N:Nat)(h:Nat->Option Obj)(dm:Nat)(O:Nat->Prop)(F:World->Prop)(g:Goroutine):Prop:=
 ∀gs W t rl,gs.size=N->gs[0]? = some g->rl[0]? = some (.run true (xO g O F) g W O)->G2 (pB p h dm (xO g O F)) gs W t rl (λ_=>none) 0 []->F W->gK p.P Q gs W t
def EvB(Sw Ro O:Nat->Prop)(e:Event):Prop:=(∀x,(MemAct.ofEvent e).touch? = some x->(tN Sw x.loc/\x.kind ≠ .plain)\/∃b,blk x.loc=some b/\x.kind = .plain/\(O b\/(Ro b/\x.write=false)))/\∀a,MemAct.ofEvent e ≠ .mark (.release a)
def Ej(p:Pl)(h:Nat->Option Obj)(W:World):Prop:=∀b,p.Sw b->b≠p.cn->b≠p.cr->W.heap[b]? = h b
section
variable {p:Pl} {Q:Machine->Outcome->World->Trace->Prop} {N:Nat} {h h':Nat->Option Obj} {dm jQ:Nat} {O X:Nat->Prop} {F F':World->Prop} {g g':Goroutine}
theorem Rc(o:p.Ok){S:aR}:(pB p h dm S).Ok where
 ne:=o.ne
 j0:=o.j0
 dm:=λh=>absurd h (Nat.lt_irrefl _)
 hR:=λg w O x=>let ⟨g1,e,_⟩:=o.hR g w O x;⟨g1,e,λ_ H=>absurd H (not_lt_zero _)⟩
 hS:=o.hS
 hM:=λ_ _ _ _ _ _ h=>absurd h (not_lt_zero _)
theorem G2.with{q q':Pl}{gs:Array Goroutine}{W:World}{t:Trace}{H:List bW}(G:G2 q gs W t H (λ_=>none) 0 [])(h0:Nat->Option Obj)(e:q' = { q with h0:=h0 })(I:∀b,q.Sw b->b≠q.cn->b≠q.cr->W.heap[b]? = h0 b):G2 q' gs W t H (λ_=>none) 0 []:=by
 subst e;exact⟨G.len,G.wi,G.sw,G.qN,G.chr,I,G.main,G.work,G.qm,G.tk1,G.BO,G.gb,G.gn,G.nn,G.one,G.wait⟩
theorem BT.pick(o:p.Ok)(hp:∀gs W t U w,gs.size=N->gs[0]? = some g->g.status = .running->U[0]? = some (.run true (xO g O F) g w O)->G2 (pB p h dm (xO g O F)) gs W t U (λ_=>none) 0 []->F W->Ej p h W->∀sl,∃e w' u,runT p.P (crowd gs W sl) 0=(.next (crowd e w' sl),u)/\gK p.P Q e w' (t++u)):BT p Q N h dm O F g:=by
 intro gs W t U hz hg hr G hF;refine gather (N:=N) (Rc o) (λe W' t' rl' tk next got h' hz' hl g' w O' M H Ϗ hk d sl=>?_) 1 gs W t U _ 0 [] G hz Nat.one_pos;have ô:got = []:=length_eq_zero_iff.1 hl;have ũ:next=0:=Nat.le_zero.1 h'.nn;have ď:tk=λ_=>none:=by
  funext j;cases M:tk j with
  | none=>rfl
  | some i=>have:=(h'.qm j i M).2.2.1;omega
 subst ô ũ ď;have ϳ:g'.status = .running:=by
  obtain⟨r,x,I,J,Z⟩:=h'.main;rw[M] at I;cases I;rw[H] at J;cases J;exact Z.2.2.2.1
 obtain⟨rfl,rfl,_⟩:=Ϗ w (.refl ..);have hF':F (W'.at d):=(Ϗ (W'.at d) (hk.trans (iN _ _ _ _))).2.2;exact .inl (hp e (W'.at d) t' rl' w hz' H ϳ M (h'.at d) hF' (λb I J Z=>h'.fx b I J Z) sl)
theorem BT.step(o:p.Ok)(hX:∀b,X b->p.Sw b/\b≠p.cn/\b≠p.cr)(hc:Cl p.Ro O F')
  (hs:∀W,F W->Ej p h W->∃W' es,stepG p.P true g W = .go g' W' es/\W'.heap.size=W.heap.size/\(W'.os=W.os/\W'.output=W.output)/\(∀b,¬ O b->¬ X b->W'.heap[b]? = W.heap[b]?)/\(∀e,e∈es->EvB p.Sw p.Ro O e)/\deafBehind dm es=jQ/\F' W'/\Ej p h' W') (hr:g'.status = .running)
  (hn:BT p Q N h' jQ O F' g'):BT p Q N h dm O F g:=by
 refine BT.pick o λgs W t rl w hz hg ϳ į G hF hfx=>?_
 obtain⟨W',es,e1,size,jU,Z,ĸ,hd,hF',Rf⟩:=hs W hF hfx;have iO:=(Array.getElem?_eq_some_iff.1 hg).1;have ϣ:∀b,p.Sw b->¬ O b:=λb H M=>G.wi.ap.sw 0 b ⟨_,į,M⟩ H
 have Ū:p.J0<gs.size->W'.heap[p.cn]? = W.heap[p.cn]?:=λI=>Z _ (ϣ _ (G.sw I).1) λU=>(hX _ U).2.1 rfl
 have ė:p.J0<gs.size->W'.heap[p.cr]? = W.heap[p.cr]?:=λI=>Z _ (ϣ _ (G.sw I).2) λU=>(hX _ U).2.2 rfl
 have hw:gs.map (Conc.woken p.P g g' W')=gs:=G2.woken (Rc o) G (λI=>by obtain⟨s,tm,e⟩:=G.qN I;exact⟨s,tm,(Ū I).trans e⟩) (λI=>by obtain⟨s,tm,e⟩:=G.chr I;exact⟨s,tm,(ė I).trans e⟩) g g';have ops:∀op∈MemOp.ofEvents 0 g.frame.fn g.frame.place es,∃e∈es,op=⟨0,g.frame.fn,g.frame.place,MemAct.ofEvent e⟩:=by
  intro op J;unfold MemOp.ofEvents at J;split at J
  ·simp at J
  ·obtain⟨e,he,rfl⟩:=Array.mem_map.1 J;exact⟨e,he,rfl⟩
 have T:=G.turn (m:=true) (g':=g') (w':=W') (O':=O) (aI:=p.Sw) (X:=X) (jQ:=jQ) (n':=0) (u:=MemOp.ofEvents 0 g.frame.fn g.frame.place es) (M':=λ_ _=>xO g' O F') į (Nat.le_of_eq size.symm) jU (λb _ H M=>Z b H M) hX (λ_ h=>h) (λ_ h=>.inl h)
  (λb hb=>.inl hb) (λb hb H=>ϣ b H hb) (λop J=>by
   obtain⟨e,he,rfl⟩:=ops op J;refine⟨rfl,λx U=>?_⟩;rcases (ĸ e he).1 x U with⟨H,M⟩|⟨b,H,_,M⟩
   ·exact .inl ⟨H,M,λ_=>rfl⟩
   ·exact .inr ⟨b,H,M⟩) (λop J=>by
   obtain⟨e,he,rfl⟩:=ops op J;exact⟨(ĸ e he).2,λx U=>((ĸ e he).1 x U).imp (·.1) λ⟨_,_,h,_⟩=>h⟩) (by rw[Deaf_own,G.wi.deaf 0 (.inl rfl)];exact hd) hr (.stop λw₁ h₁=>⟨rfl,rfl,hc _ _ h₁ hF'⟩) (λh=>absurd h (Nat.lt_irrefl _)) o.j0
 have T':=T.with (q':=pB p h' jQ (xO g' O F')) h' rfl Rf;intro sl;refine⟨_,_,_,runT_crowd_go hg (by exact e1),?_⟩;rw[hw];refine hn _ W' _ _ (by simpa using hz) (get_set_same iO _) (List.getElem?_set_self (by rw[G.len];exact iO)) T' hF'
theorem abK(o:p.Ok)(hc:Cl p.Ro O F):bR p.P true (BT p Q N h dm O F):=
 ⟨fun {g g'} _ hr H hn=>BT.step o (X:=λ_=>False) (λ_ h=>h.elim) hc (λW hF I=>⟨W,#[],H W,rfl,⟨rfl,rfl⟩,λ_ _ _=>rfl,λe he=>by simp at he,rfl,hF,I⟩) hr hn⟩
theorem BT.born(o:p.Ok)(hc:Cl p.Ro O F){c:Goroutine}(hs:∀W,F W->stepG p.P true g W = .spawn g' c W #[])(hr:g'.status = .running)(ė:c.status = .running)(hC:∀W,F W->Runs p.P false p.Ro p.AtR c W λ_=>False)(hJ:p.J0<=N)(ϣ:p.Sw p.cn/\p.Sw p.cr)
  (Ĕ:∀W,F W->Ej p h W->(p.J0=N->(∃s,kW W p.cn s)/\∃s,kW W p.cr s)) (hn:BT p Q (N+1) h 0 O F g'):BT p Q N h 0 O F g:=by
 refine BT.pick o λgs W t rl w hz U ϳ į G hF J=>?_
 have M:=(Array.getElem?_eq_some_iff.1 U).1;have H:(∃s,kW W p.cn s)/\∃s,kW W p.cr s:=by
  rcases Nat.eq_or_lt_of_le hJ with e|e
  ·exact Ĕ W hF J e
  ·exact⟨G.qN (by show p.J0<gs.size;omega),G.chr (by show p.J0<gs.size;omega)⟩
 have T:=G.born (p:=pB p h 0 (xO g O F)) (g':=g') (c:=c) (n':=0) (M':=λ_ _=>xO g' O F) g.frame.fn c.frame.fn g.frame.place į rfl hr (.stop λZ I=>⟨rfl,rfl,hc _ _ I hF⟩) ė (hC W hF) (by show p.J0<=gs.size;omega) o.j0 ϣ H.1 H.2;intro sl;refine⟨(gs.setIfInBounds 0 g').push c,W,bear gs.size g.frame.fn c.frame.fn g.frame.place,(runT_crowd_spawn U (by exact hs W hF)).trans (by simp[MemOp.ofEvents,bear]),?_⟩;refine hn _ W _ _ (by simp[hz]) (by rw[Array.getElem?_push,if_neg (by simp;omega)];exact get_set_same M _) (by rw[List.getElem?_append_left (by rw[length_set,G.len];exact M)];exact List.getElem?_set_self (by rw[G.len];exact M)) T hF
theorem BT.enter{W:World}(M:p.J0=N)(r2:∀b,p.Ro b->b<W.heap.size/\¬ p.Sw b)(Z:∀b,O b->b<W.heap.size/\¬ p.Sw b/\¬ p.Ro b)(hc:Cl p.Ro O F)(hF:∀d,F (W.at d))(U:Ej p h W)(hn:BT p Q N h dm O F g):aM p.P Q N p.Sw dm W g:=by
 intro gs t d I A;obtain⟨rl,e,G⟩:=A.own (Ro:=p.Ro) (O:=O) { pB p h dm (xO g O F) with h0:=λb=>W.heap[b]? } rfl rfl (M.trans I.symm) rfl rfl rfl rfl r2 Z (.stop λJ H=>⟨rfl,rfl,hc _ _ H (hF d)⟩);exact hn gs (W.at d) t rl I A.main e (G.with (q':=pB p h dm (xO g O F)) h rfl U) (hF d)
theorem BT.pool(o:p.Ok)(hs:∀w,stepG p.P true g w = .go g' w)(hr:g'.status = .running)(hR:∀W,F W->Runs p.P true p.Ro (p.fq 0 []) g' W O)(one:0<p.n->p.J0<N)
  (hn:∀gs W t U,gs.size=N->G2 { p with h0:=h,dm:=0 } gs W t U (λ_=>none) 0 []->gK p.P Q gs W t):BT p Q N h 0 O F g:=by
 refine BT.pick o λgs W t U w hz hg ϳ Z G hF J=>?_
 have ϣ:∀b,p.Sw b->¬ O b:=λb e h2=>G.wi.ap.sw 0 b ⟨_,Z,h2⟩ e
 have hw:gs.map (Conc.woken p.P g g' W)=gs:=G2.woken (Rc o) G (λH=>G.qN H) (λH=>G.chr H) g g';have T:=G.turn (m:=true) (g':=g') (w':=W) (O':=O) (aI:=p.Sw) (X:=λ_=>False) (jQ:=0) (n':=p.n) (u:=#[]) (M':=p.fq) Z (le_refl _) ⟨rfl,rfl⟩ (λb _ _ _=>rfl) (λ_ h=>h.elim) (λ_ h=>h) (λ_ h=>.inl h)
  (λb I=>.inl I) (λb I e=>ϣ b e I) (λop M=>by simp at M) (λop M=>by simp at M) (by rw[Array.append_empty];exact G.wi.deaf 0 (.inl rfl)) hr (hR W hF) (λhp=>by have:=one hp;show p.J0<gs.size;omega) o.j0
 intro sl;refine⟨_,_,_,runT_crowd_go hg (by exact hs W),?_⟩;rw[hw];exact hn _ _ _ _ (by simpa using hz) (T.with (q':={ p with h0:=h,dm:=0 }) h rfl J)
theorem BT.YF{q:Pl}(oq:q.Ok)(o:p.Ok)(Z:q.P=p.P)(hS:q.Sw=p.Sw)(_:q.Ro=p.Ro)(hqJ:q.J0=N)(hJ:p.J0=N)(hc:Cl p.Ro O F){c:Goroutine}(hs:∀W,F W->stepG p.P true g W = .spawn g' c W #[])(hr:g'.status = .running)(ė:c.status = .running)(hC:∀W,F W->Runs p.P false p.Ro p.AtR c W λ_=>False)(ϣ:p.Sw p.cn/\p.Sw p.cr)
  (Ĕ:∀W,F W->Ej q h W->(∃s,kW W p.cn s)/\∃s,kW W p.cr s) (hfx:∀W,Ej q h W->Ej p h' W) (hO:∀b,¬ O b) (hRl:∀W,F W->∀b,p.Ro b->b<W.heap.size/\¬ p.Sw b) (hn:BT p Q (N+1) h' 0 O F g'):BT q Q N h 0 O F g:=by
 refine BT.pick oq λgs W t rl w hz hg ϳ į G hF Rf=>?_
 have iO:=(Array.getElem?_eq_some_iff.1 hg).1;have A:Al p.P p.Sw 0 gs W t g:=⟨⟨_,_,G,Z,hS,rfl,by show q.J0=gs.size;omega⟩,hg,ϳ⟩;obtain⟨rl',e,M⟩:=A.own (Ro:=p.Ro) (O:=O) { pB p h' 0 (xO g O F) with h0:=λb=>W.heap[b]? } rfl rfl (by show p.J0=gs.size;omega) rfl rfl rfl rfl (hRl W hF) (λb hb=>absurd hb (hO b)) (.stop λJ H=>⟨rfl,rfl,hc _ _ H hF⟩);have U:=M.with (q':=pB p h' 0 (xO g O F)) h' rfl (hfx W Rf);have I:=Ĕ W hF Rf;have T:=U.born (p:=pB p h' 0 (xO g O F)) (g':=g') (c:=c) (n':=0) (M':=λ_ _=>xO g' O F) g.frame.fn c.frame.fn g.frame.place e rfl hr (.stop λJ H=>⟨rfl,rfl,hc _ _ H hF⟩) ė (hC W hF) (by show p.J0<=gs.size;omega) o.j0 ϣ I.1 I.2;intro sl;refine⟨(gs.setIfInBounds 0 g').push c,W,bear gs.size g.frame.fn c.frame.fn g.frame.place,(runT_crowd_spawn hg (by rw[Z];exact hs W hF)).trans (by simp[MemOp.ofEvents,bear]),?_⟩;rw[Z];exact hn _ W _ _ (by simp[hz]) (by rw[Array.getElem?_push,if_neg (by simp;omega)];exact get_set_same iO _) (by rw[List.getElem?_append_left (by rw[length_set,M.len];exact iO)];exact List.getElem?_set_self (by rw[M.len];exact iO)) T hF
end
end Px
namespace Go.Proofs.YtnonoiafongllaaGreatDoor
open Go Go.Conc Px Go.ConcR.Gen
open Go.ConcR (WgAt stA smA rd wr mk DC0 Payload wgBlock)
def hG(h0:Nat->Option Obj)(Wg:Nat)(st:Int):Nat->Option Obj:=λb=>if b=Wg then some (wgBlock 115 st 0) else h0 b
structure Bg(p:Pl)(O:Nat->Prop)(F:World->Prop)(Wg:Nat):Prop where
 o:p.Ok
 P:p.P=prog
 cl:Cl p.Ro O F
 sw:p.Sw Wg/\Wg≠p.cn/\Wg≠p.cr
 ro:¬ p.Ro Wg
 ow:¬ O Wg
section
variable {p:Pl} {Q:Machine->Outcome->World->Trace->Prop} {N:Nat} {h0:Nat->Option Obj} {dm jQ:Nat} {O:Nat->Prop} {F:World->Prop} {g g':Goroutine} {Wg:Nat}
theorem Bg.k(B:Bg p O F Wg){h:Nat->Option Obj}:bR prog true (BT p Q N h dm O F):=B.P ▸ abK B.o B.cl
theorem Bg.look(B:Bg p O F Wg){H:Int}{es:Array Event}(M:∀w,WgAt 115 Wg w H 0->stepG prog true g w = .go g' w es)(he:∀e,e∈es->EvB p.Sw p.Ro O e)(J:deafBehind dm es=jQ)(hr:g'.status = .running)(hn:BT p Q N (hG h0 Wg H) jQ O F g'):BT p Q N (hG h0 Wg H) dm O F g:=
 BT.step B.o (X:=λ_=>False) (λ_ h=>h.elim) B.cl (λW hF I=>⟨W,es,by rw[B.P];exact M W ((I Wg B.sw.1 B.sw.2.1 B.sw.2.2).trans (by simp[hG])),rfl,⟨rfl,rfl⟩,λ_ _ _=>rfl,he,J,hF,I⟩) hr hn
theorem Bg.atom(B:Bg p O F Wg){Z I:Int}(hs:∀w,WgAt 115 Wg w Z 0->stepG prog true g w = .go g' (w.setCell (stA Wg) (.int .u64 I)) #[rd (stA Wg),wr (stA Wg)])(hr:g'.status = .running)(hn:BT p Q N (hG h0 Wg I) dm O F g'):BT p Q N (hG h0 Wg Z) dm O F g:=by
 have U:tN p.Sw (.cell (stA Wg)):=⟨Wg,rfl,B.sw.1⟩;refine BT.step B.o (X:=λb=>b=Wg) (λb H=>H ▸ B.sw) B.cl (λW hF J=>?_) hr hn;have hw:WgAt 115 Wg W Z 0:=(J Wg B.sw.1 B.sw.2.1 B.sw.2.2).trans (by simp[hG]);obtain⟨h1,h2,M⟩:=BU (p:=⟨prog,p.Ro,115,Wg,p.cn,undef⟩) hw I;refine⟨_,_,by rw[B.P];exact hs W hw,h2,⟨rfl,rfl⟩,λb _ H=>M b H,λe he=>?_,?_,B.cl _ _ ⟨Nat.le_of_eq h2.symm,λb H=>M b λe=>by subst e;exact H.elim B.ro B.ow,rfl,rfl⟩ hF,λb H n1 n2=>?_⟩
 ·simp only[mem_toArray,mem_cons,not_mem_nil,or_false] at he;rcases he with rfl|rfl;all_goals exact⟨(λx J=>(by cases J;exact .inl ⟨U,(λh=>(by cases h))⟩)),(λa h=>(by cases h))⟩
 ·exact deafBehind_still (λe he=>by
   simp only[mem_toArray,mem_cons,not_mem_nil,or_false] at he;rcases he with rfl|rfl<;>exact⟨(λh=>(by cases h)),(λh=>(by cases h))⟩) dm
 ·by_cases õ:b=Wg
  ·subst õ;exact h1.trans (by simp[hG])
  ·exact (M b õ).trans ((J b H n1 n2).trans (by simp[hG,õ]))
theorem Iy{Sw Ro O:Nat->Prop}(m:Mark)(J:(MemAct.ofEvent (ConcR.mk m)).touch? = none)(hr:∀a,m ≠ .release a):∀e,e∈#[ConcR.mk m]->EvB Sw Ro O e:=by
 intro e he;simp only[mem_toArray,mem_cons,not_mem_nil,or_false] at he;subst he;refine⟨(λx I=>(by rw[J] at I;cases I)),λa H=>?_⟩;cases m<;>first|exact hr _ (by cases H;rfl)|cases H
end
theorem A8{P:Program}{m:Bool}{b:Frame}{I:Array Value}{J:List Item}{cs:List Frame}{f:FuncId}{fn:Func}{H:List Deferred}(U:P.funcs[f]? = some fn)(Z:(fn.name == "runtime.NumGoroutine")=false)(M:fn.body.isNone=true)(hx:Extern.findNext fn=none)(he:Extern.find fn=some (λ_=>do mark .enable;pure Extern.Race.none_))(w:World):
  stepG P m (G { b.at ⟨I,dcall f #[]::H⟩ J with mode:=.returning } cs) w = .go (G { b.at ⟨I,H⟩ J with mode:=.returning } cs) w #[ConcR.mk .enable]:=
 stepG_unwind_entry (v:=.tuple #[]) (a:=⟨I,dcall f #[]::H⟩) rfl U Z M hx he (by simp[Extern.Race.none_]) (by simp;rfl) (by
  intro x e;simp at e;subst e;exact⟨rfl,λg h=>by cases h⟩)
noncomputable def KF:Code:=Tryz.f55.body.getD .skip
section
variable {p:Pl} {Q:Machine->Outcome->World->Trace->Prop} {N:Nat} {h0:Nat->Option Obj} {O:Nat->Prop} {F:World->Prop} {Wg:Nat}
theorem UC(B:Bg p O F Wg)(v:Nat)(hv:v<100){c:Frame}{cs:List Frame}(hn:BT p Q N (hG h0 Wg (((v+1:Nat):Int)*ConcR.KK)) 0 O F (G (c.finish (.tuple #[])) cs)):
  BT p Q N (hG h0 Wg ((v:Int)*ConcR.KK)) 0 O F (G ((base 55).at ⟨([.pointer (some ⟨Wg,0,none⟩),goInt 1]++List.replicate 115 undef).toArray,[]⟩ [.code KF]) (c::cs)):=by
 simp only[KF,Tryz.f55,Option.getD_some,List.replicate,cons_append,nil_append];have k:bR prog true (BT p Q N (hG h0 Wg ((v:Int)*ConcR.KK)) 0 O F):=B.k;repeat (first|refine k.seq ?_|refine k.done ?_|refine k.region ?_|refine k.op ?_|refine k.un ?_|refine k.yes ?_|refine k.no ?_|refine k.skip ?_)
 refine B.look (λw _=>stepG_mark0 .disable (by simp) rfl rfl (by decide) rfl eH.f_disable (x_disable_n lk) (x_disable_b lk) (x_disable_x lk) (x_disable_f lk)) (Iy _ rfl (by simp)) rfl rfl ?_;walk_nrm;have k:bR prog true (BT p Q N (hG h0 Wg ((v:Int)*ConcR.KK)) 1 O F):=B.k;repeat (first|refine k.seq ?_|refine k.done ?_|refine k.region ?_|refine k.op ?_|refine k.un ?_|refine k.yes ?_|refine k.no ?_|refine k.skip ?_)
 refine k.defer ?_;repeat (first|refine k.seq ?_|refine k.done ?_|refine k.region ?_|refine k.op ?_|refine k.un ?_|refine k.yes ?_|refine k.no ?_|refine k.skip ?_)
 refine k.entry (.bool false) eH.f_inBubble (x_inBubble_n lk) (x_inBubble_b lk) (x_inBubble_x lk) (x_inBubble_f lk) ?_;repeat (first|refine k.seq ?_|refine k.done ?_|refine k.region ?_|refine k.op ?_|refine k.un ?_|refine k.yes ?_|refine k.no ?_|refine k.skip ?_)
 refine k.call 8 func92 rfl bK ?_;repeat (first|refine k.seq ?_|refine k.done ?_|refine k.region ?_|refine k.op ?_|refine k.un ?_|refine k.yes ?_|refine k.no ?_|refine k.skip ?_)
 rw[show IntKind.u64.wrap (IntKind.u64.wrap 1*2 ^ min (Int.toNat 32) IntKind.u64.bits)=4294967296 from by decide];rcases Nat.eq_zero_or_pos v with rfl|hvp
 ·have e0:IntKind.u64.wrap (((0:Nat):Int)*ConcR.KK+4294967296)=4294967296:=bM;rw[show ((0+1:Nat):Int)*ConcR.KK=4294967296 from by decide] at hn;refine B.atom (λw H=>(stepG_add_atomic rfl rfl bM rfl eH.f_addU64 (x_addU64_n lk) (x_addU64_b lk) (x_addU64_x lk) .u64 (x_addU64_f lk) rfl rfl H.cellSt (H.thaw 0)).trans (by rw[e0];rfl)) rfl ?_;walk_nrm;have k:bR prog true (BT p Q N (hG h0 Wg 4294967296) 1 O F):=B.k;repeat (first|refine k.seq ?_|refine k.done ?_|refine k.region ?_|refine k.op ?_|refine k.un ?_|refine k.yes ?_|refine k.no ?_|refine k.skip ?_)
  refine k.ret ?_;refine k.leave1 func92 ?_;repeat (first|refine k.seq ?_|refine k.done ?_|refine k.region ?_|refine k.op ?_|refine k.un ?_|refine k.yes ?_|refine k.no ?_|refine k.skip ?_)
  refine B.look (λw H=>wm rfl rfl bM rfl rfl underlying166 underlying125 eH.room_tU32 H.cellSm) (λe he=>by simp at he) rfl rfl ?_;walk_nrm;repeat (first|refine k.seq ?_|refine k.done ?_|refine k.region ?_|refine k.op ?_|refine k.un ?_|refine k.yes ?_|refine k.no ?_|refine k.skip ?_)
  refine B.look (λw _=>stepG_markAt .read eO rfl rfl bM rfl eH.f_raceRead (x_raceRead_n lk) (x_raceRead_b lk) (x_raceRead_x lk) (x_raceRead_f lk) (ad:=⟨Wg,1,none⟩) (by simp[Act.eval];rfl)) (λe he=>?_) rfl rfl ?_
  ·simp only[mem_toArray,mem_cons,not_mem_nil,or_false] at he;subst he;exact⟨(λx hx=>(by cases hx;exact .inl ⟨⟨Wg,rfl,B.sw.1⟩,(λh=>(by cases h))⟩)),(λa h=>(by cases h))⟩
  walk_nrm;repeat (first|refine k.seq ?_|refine k.done ?_|refine k.region ?_|refine k.op ?_|refine k.un ?_|refine k.yes ?_|refine k.no ?_|refine k.skip ?_)
  refine k.ret ?_;refine B.look (λw _=>A8 eH.f_enable (x_enable_n lk) (x_enable_b lk) (x_enable_x lk) (x_enable_f lk) w) (Iy _ rfl eO) rfl rfl ?_;have k:bR prog true (BT p Q N (hG h0 Wg 4294967296) 0 O F):=B.k;exact k.step rfl rfl (λw=>gP rfl rfl rfl func55 (resultsC_none rfl _)) hn
 obtain⟨S,hS⟩:=aJ (((v+1:Nat):Int)*ConcR.KK:Int);have Z:IntKind.u64.wrap ((v:Int)*ConcR.KK+4294967296)=S:=by rw[hS,IntKind.wrap_u64];simp only[ConcR.KK];omega
 rw[<-hS] at hn;refine B.atom (λw H=>(stepG_add_atomic rfl rfl bM rfl eH.f_addU64 (x_addU64_n lk) (x_addU64_b lk) (x_addU64_x lk) .u64 (x_addU64_f lk) rfl rfl H.cellSt (H.thaw 0)).trans (by rw[Z];rfl)) rfl ?_;have I:S=((v+1:Nat):Int)*4294967296+((0:Nat):Int):=by rw[hS];simp[ConcR.KK]
 have J:Int.fdiv S (2 ^ min (Int.toNat 32) IntKind.u64.bits)=((v+1:Nat):Int):=by
  rw[show (2:Int) ^ min (Int.toNat 32) IntKind.u64.bits=4294967296 from by decide,Int.fdiv_eq_ediv_of_nonneg _ bM,I];omega
 have M:IntKind.u64.wrap ↑(BitVec.ofInt IntKind.u64.bits S &&& BitVec.ofInt IntKind.u64.bits 2147483648).toNat=0:=by
  have:=ConcN.st_flag (v+1) 0 bB bB;rw[<-I] at this;exact this
 have U:IntKind.u64.wrap ↑(BitVec.ofInt IntKind.u64.bits S &&& BitVec.ofInt IntKind.u64.bits 2147483647).toNat=0:=by
  have:=ConcN.st_waiters (v+1) 0 bB bB;rw[<-I] at this;exact this
 have c1:IntKind.i32.wrap ((v+1:Nat):Int)=((v+1:Nat):Int):=by rw[IntKind.wrap_i32];omega
 clear hS I;walk_nrm;have k:bR prog true (BT p Q N (hG h0 Wg S) 1 O F):=B.k;refine k.op ?_;refine k.done ?_;refine k.ret ?_;refine k.leave1 func92 ?_;refine k.op ?_;refine k.done ?_;refine k.seq ?_;refine k.seq ?_;refine k.region ?_;refine k.op ?_;refine k.op (v:=.int .u64 0) ?_ (h:=by exact congrArg (λx=>some (Next.value (.int .u64 x))) M);refine k.op ?_;refine k.op ?_;refine k.un ?_;refine k.un ?_;refine k.op ?_;refine k.done ?_;refine k.no ?_;refine k.skip ?_;refine k.seq ?_;refine k.region ?_;refine k.op ?_;refine k.op (v:=.int .u64 ((v+1:Nat):Int)) ?_ (h:=by exact congrArg (λx=>some (Next.value (.int .u64 x))) J);refine k.op (v:=.int .i32 ((v+1:Nat):Int)) ?_ (h:=by exact congrArg (λx=>some (Next.value (.int .i32 x))) c1);refine k.op ?_;refine k.done ?_;refine k.seq ?_;refine k.region ?_;refine k.op ?_;refine k.op (v:=.int .u64 0) ?_ (h:=by exact congrArg (λx=>some (Next.value (.int .u64 x))) U);clear J M U c1 Z;refine k.op ?_;refine k.op ?_;refine k.done ?_;refine k.seq ?_;refine k.seq ?_;refine k.region ?_;refine k.op ?_;refine k.op ?_;refine k.op ?_;refine k.op ?_;refine k.op ?_;refine k.op ?_;refine k.op ?_;refine k.op ?_;refine k.op (v:=.bool false) ?_ (h:=by exact congrArg (λx=>some (Next.value (.bool x))) (decide_eq_false (by rw[show IntKind.i32.wrap 1=1 from by decide];omega)));refine k.op ?_;refine k.done ?_;refine k.no ?_;refine k.skip ?_;refine k.seq ?_;refine k.seq ?_;refine k.region ?_;refine k.op ?_;refine k.op (v:=.bool false) ?_ (h:=by exact congrArg (λx=>some (Next.value (.bool x))) (decide_eq_false bB));refine k.done ?_;refine k.no ?_;refine k.skip ?_;refine k.seq ?_;refine k.seq ?_;refine k.region ?_;repeat (first|refine k.op ?_|refine k.un ?_)
 refine k.done ?_;refine k.no ?_;refine k.skip ?_;refine k.seq ?_;refine k.seq ?_;refine k.region ?_;refine k.op ?_;refine k.op (v:=.bool true) ?_ (h:=by exact congrArg (λx=>some (Next.value (.bool x))) (decide_eq_true bB));repeat (first|refine k.op ?_|refine k.un ?_)
 refine k.done ?_;refine k.yes ?_;refine k.ret ?_;refine B.look (λw _=>A8 eH.f_enable (x_enable_n lk) (x_enable_b lk) (x_enable_x lk) (x_enable_f lk) w) (Iy _ rfl eO) rfl rfl ?_;have k:bR prog true (BT p Q N (hG h0 Wg S) 0 O F):=B.k;exact k.step rfl rfl (λw=>gP rfl rfl rfl func55 (resultsC_none rfl _)) hn
end
noncomputable def iC:Bool->Code|true=>Tryz.f37.body.getD .skip|false=>Tryz.f47.body.getD .skip
noncomputable def qd(q:Bool):Array Oper:=match iC q with | .seq _ (.seq (.region _ o _) _)=>o|_=>#[]
noncomputable def kK(q:Bool):Code:=match iC q with | .seq _ (.seq _ c)=>c|_=>.ret
noncomputable def jR(q:Bool):Code:=match kK q with | .seq _ (.seq (.seq _ (.block _ (.loop c))) _)=>c|_=>.ret
noncomputable def fJ(q:Bool):Code:=match kK q with | .seq _ (.seq (.seq _ (.block _ (.loop _))) c)=>c|_=>.ret
theorem Me:∀q k0 k1 k2 k3 k4 k5:Bool,∀i∈Region.ready .any (qd q) #[k0,k1,k2,k3,k4,k5],(i=0/\k0=false)\/(i=1/\k1=false)\/(i=2/\k2=false)\/(i=3/\k3=false)\/(i=4/\k4=false/\k0=true/\k2=true)\/(i=5/\k5=false/\k1=true/\k3=true):=by intro q;cases q<;>decide +kernel
theorem aae:∀q k0 k1 k2 k3 k4 k5:Bool,Region.ready .any (qd q) #[k0,k1,k2,k3,k4,k5] = []->k0=true/\k1=true/\k2=true/\k3=true/\k4=true/\k5=true:=by intro q;cases q<;>decide +kernel
def El(X Y:Value)(wk b3 b5:Nat)(v7 v8 v11 v12:Value):List Value:=[X,goInt wk,Y,.pointer (some ⟨b3,0,none⟩),undef,.pointer (some ⟨b5,0,none⟩),.slice none 0 0,v7,v8,undef,undef,v11,v12]++List.replicate 14 undef
def A9:Obj:=.chan 0 #[] false 0 0 false
structure CI(q:Bool)(W₂ W:World)(Sw aI:Nat->Prop)(k0 k1 k2 k3 k4 k5:Bool)(v7 v8 v11 v12:Value)(c1 c2 b7 b8:Nat):Prop where
 size:W₂.heap.size<=W.heap.size
 old:∀b,b<W₂.heap.size->W.heap[b]? = W₂.heap[b]?
 sw:∀b,aI b↔Sw b\/(k0=true/\b=c1)\/(k1=true/\b=c2)
 h0:k0=true->v11 = .chan (some c1)/\W₂.heap.size<=c1/\c1<W.heap.size/\W.heap[c1]? = some A9
 h1:k1=true->v12 = .chan (some c2)/\W₂.heap.size<=c2/\c2<W.heap.size/\W.heap[c2]? = some A9
 h2:k2=true->v7 = .pointer (some ⟨b7,0,none⟩)/\W₂.heap.size<=b7/\b7<W.heap.size/\W.heap[b7]? = some (.cells #[if k4 then .chan (some c1) else .chan none] 106 (0,0))
 h3:k3=true->v8 = .pointer (some ⟨b8,0,none⟩)/\W₂.heap.size<=b8/\b8<W.heap.size/\W.heap[b8]? = some (.cells #[if k5 then .chan (some c2) else .chan none] (tC q) (0,0))
 h4:k4=true->k0=true/\k2=true
 h5:k5=true->k1=true/\k3=true
 ne:k0=true->k1=true->c1≠c2
 Po:k2=true->k3=true->b7≠b8
 env:W.os=W₂.os/\W.output=W₂.output
theorem wu(W:World)(o:Obj):(W.alloc o).heap[W.heap.size]? = some o:=by
 show (W.heap.push o)[W.heap.size]? = _;rw[Array.getElem?_push,if_pos rfl]
theorem jJ(W:World)(o:Obj){b:Nat}(h:b<W.heap.size):(W.alloc o).heap[b]? = W.heap[b]?:=by
 show (W.heap.push o)[b]? = _;rw[Array.getElem?_push,if_neg bB]
theorem abL(w:World):(Instr.makeChan 106 (goInt 0)).run prog w = .ok (.chan (some w.heap.size)) (w.alloc A9):=by
 obtain⟨I,e,H⟩:=Option.map_eq_some_iff.1 (by kernel_rfl:(prog.info? 3).map (·.bytes)=some 8);exact run_makeChan (n:=0) (by kernel_rfl:prog.underlying 106=some (.chan .both 3)) e .i64 bB eO
theorem abM(w:World):(Instr.makeChan 106 (goInt 0)).events prog w #[]=#[]:=by
 obtain⟨I,e,H⟩:=Option.map_eq_some_iff.1 (by kernel_rfl:(prog.info? 3).map (·.bytes)=some 8);exact events_makeChan (n:=0) (by kernel_rfl:prog.underlying 106=some (.chan .both 3)) e .i64 bB eO _
theorem abN(q:Bool)(w:World):(Instr.makeChan (tC q) (goInt 0)).run prog w = .ok (.chan (some w.heap.size)) (w.alloc A9)/\(Instr.makeChan (tC q) (goInt 0)).events prog w #[]=#[]:=by
 obtain⟨I,e,H⟩:=Option.map_eq_some_iff.1 ((by cases q<;>kernel_rfl):(prog.info? (tE q)).map (λ_=>0)=some 0);have h:=((by cases q<;>kernel_rfl):prog.underlying (tC q)=some (.chan .both (tE q)));exact⟨run_makeChan (n:=0) h e .i64 bB eO,events_makeChan (n:=0) h e .i64 bB eO _⟩
section
variable {q:Bool} {Q:Machine->Outcome->World->Trace->Prop} {N:Nat} {Sw aI:Nat->Prop} {W₂ W:World} {k0 k1 k2 k3 k4 k5:Bool} {v7 v8 v11 v12:Value} {c1 c2 b7 b8:Nat}
theorem CI.new(h:CI q W₂ W Sw aI k0 k1 k2 k3 k4 k5 v7 v8 v11 v12 c1 c2 b7 b8)(o:Obj):W₂.heap.size<=(W.alloc o).heap.size/\(∀b,b<W₂.heap.size->(W.alloc o).heap[b]? = W₂.heap[b]?)/\(W.alloc o).heap.size=W.heap.size+1:=by
 have H:(W.alloc o).heap.size=W.heap.size+1:=World.size_alloc ..;have:=h.size;exact⟨bB,λb e=>(jJ W o bB).trans (h.old b e),H⟩
theorem CI.aeH(h:CI q W₂ W Sw aI false k1 k2 k3 k4 k5 v7 v8 v11 v12 c1 c2 b7 b8):CI q W₂ (W.alloc A9) Sw (λb=>aI b\/b=W.heap.size) true k1 k2 k3 k4 k5 v7 v8 (.chan (some W.heap.size)) v12 W.heap.size c2 b7 b8:=by
 obtain⟨U,Z,n3⟩:=h.new A9;have M:k4=false:=by cases k4 with|false=>rfl|true=>exact absurd (h.h4 rfl).1 bM
 subst M;have hl:=h.size;refine⟨U,Z,λb=>?_,λ_=>⟨rfl,hl,bB,wu ..⟩,λhk=>?_,λhk=>?_,λhk=>?_,(λhk=>(by cases hk)),h.h5,λ_ hk=>?_,h.Po,h.env⟩
 ·rw[h.sw];simp;exact⟨λx=>by rcases x with (x|x)|x<;>simp[x],λx=>by rcases x with x|x|x<;>simp[x]⟩
 ·obtain⟨e,H,I,J⟩:=h.h1 hk;exact⟨e,H,bB,(jJ _ _ I).trans J⟩
 ·obtain⟨e,H,I,J⟩:=h.h2 hk;exact⟨e,H,bB,(jJ _ _ I).trans J⟩
 ·obtain⟨e,H,I,J⟩:=h.h3 hk;exact⟨e,H,bB,(jJ _ _ I).trans J⟩
 ·have:=(h.h1 hk).2.2.1;omega
theorem CI.aeI(h:CI q W₂ W Sw aI k0 false k2 k3 k4 k5 v7 v8 v11 v12 c1 c2 b7 b8):CI q W₂ (W.alloc A9) Sw (λb=>aI b\/b=W.heap.size) k0 true k2 k3 k4 k5 v7 v8 v11 (.chan (some W.heap.size)) c1 W.heap.size b7 b8:=by
 obtain⟨U,Z,n3⟩:=h.new A9;have M:k5=false:=by cases k5 with|false=>rfl|true=>exact absurd (h.h5 rfl).1 bM
 subst M;have hl:=h.size;refine⟨U,Z,λb=>?_,λhk=>?_,λ_=>⟨rfl,hl,bB,wu ..⟩,λhk=>?_,λhk=>?_,h.h4,(λhk=>(by cases hk)),λhk _=>?_,h.Po,h.env⟩
 ·rw[h.sw];simp;exact⟨λx=>by rcases x with (x|x)|x<;>simp[x],λx=>by rcases x with x|x|x<;>simp[x]⟩
 ·obtain⟨e,H,I,J⟩:=h.h0 hk;exact⟨e,H,bB,(jJ _ _ I).trans J⟩
 ·obtain⟨e,H,I,J⟩:=h.h2 hk;exact⟨e,H,bB,(jJ _ _ I).trans J⟩
 ·obtain⟨e,H,I,J⟩:=h.h3 hk;exact⟨e,H,bB,(jJ _ _ I).trans J⟩
 ·have:=(h.h0 hk).2.2.1;omega
theorem CI.aeJ(h:CI q W₂ W Sw aI k0 k1 false k3 k4 k5 v7 v8 v11 v12 c1 c2 b7 b8):CI q W₂ (W.alloc (.cells #[.chan none] 106 (0,0))) Sw aI k0 k1 true k3 k4 k5 (.pointer (some ⟨W.heap.size,0,none⟩)) v8 v11 v12 c1 c2 W.heap.size b8:=by
 obtain⟨U,Z,n3⟩:=h.new (.cells #[.chan none] 106 (0,0));have M:k4=false:=by cases k4 with|false=>rfl|true=>exact absurd (h.h4 rfl).2 bM
 subst M;have hl:=h.size;refine⟨U,Z,h.sw,λhk=>?_,λhk=>?_,λ_=>⟨rfl,hl,bB,wu ..⟩,λhk=>?_,(λhk=>(by cases hk)),h.h5,h.ne,λ_ hk=>?_,h.env⟩
 ·obtain⟨e,H,I,J⟩:=h.h0 hk;exact⟨e,H,bB,(jJ _ _ I).trans J⟩
 ·obtain⟨e,H,I,J⟩:=h.h1 hk;exact⟨e,H,bB,(jJ _ _ I).trans J⟩
 ·obtain⟨e,H,I,J⟩:=h.h3 hk;exact⟨e,H,bB,(jJ _ _ I).trans J⟩
 ·have:=(h.h3 hk).2.2.1;omega
theorem CI.aeK(h:CI q W₂ W Sw aI k0 k1 k2 false k4 k5 v7 v8 v11 v12 c1 c2 b7 b8):CI q W₂ (W.alloc (.cells #[.chan none] (tC q) (0,0))) Sw aI k0 k1 k2 true k4 k5 v7 (.pointer (some ⟨W.heap.size,0,none⟩)) v11 v12 c1 c2 b7 W.heap.size:=by
 obtain⟨U,Z,n3⟩:=h.new (.cells #[.chan none] (tC q) (0,0));have M:k5=false:=by cases k5 with|false=>rfl|true=>exact absurd (h.h5 rfl).2 bM
 subst M;have hl:=h.size;refine⟨U,Z,h.sw,λhk=>?_,λhk=>?_,λhk=>?_,λ_=>⟨rfl,hl,bB,wu ..⟩,h.h4,(λhk=>(by cases hk)),h.ne,λhk _=>?_,h.env⟩
 ·obtain⟨e,H,I,J⟩:=h.h0 hk;exact⟨e,H,bB,(jJ _ _ I).trans J⟩
 ·obtain⟨e,H,I,J⟩:=h.h1 hk;exact⟨e,H,bB,(jJ _ _ I).trans J⟩
 ·obtain⟨e,H,I,J⟩:=h.h2 hk;exact⟨e,H,bB,(jJ _ _ I).trans J⟩
 ·have:=(h.h2 hk).2.2.1;omega
theorem CI.s7(h:CI q W₂ W Sw aI true k1 true k3 false k5 v7 v8 v11 v12 c1 c2 b7 b8):CI q W₂ (W.setRow b7 #[.chan (some c1)]) Sw aI true k1 true k3 true k5 v7 v8 v11 v12 c1 c2 b7 b8:=by
 obtain⟨I,J,M,H⟩:=h.h2 rfl;have U:(W.setRow b7 #[.chan (some c1)]).heap.size=W.heap.size:=setRow_size ..;have Z:∀b,b≠b7->(W.setRow b7 #[.chan (some c1)]).heap[b]? = W.heap[b]?:=λb hb=>setRow_other _ _ _ _ hb
 have hc:∀b o,W.heap[b]? = some o->o=A9->b≠b7:=λb o e1 e2 e=>by subst e;rw[H] at e1;cases e1;cases e2
 refine⟨by rw[U];exact h.size,λb hb=>(Z b bB).trans (h.old b hb),h.sw,λhk=>?_,λhk=>?_,λ_=>⟨I,J,by rw[U];exact M,setRow_heap _ _ _ _ _ _ H⟩,λhk=>?_,λ_=>⟨rfl,rfl⟩,h.h5,h.ne,h.Po,(oK _ _ _).1.trans h.env.1,(oK _ _ _).2.trans h.env.2⟩
 ·obtain⟨I,J,M,H⟩:=h.h0 hk;exact⟨I,J,by rw[U];exact M,(Z _ (hc _ _ H rfl)).trans H⟩
 ·obtain⟨I,J,M,H⟩:=h.h1 hk;exact⟨I,J,by rw[U];exact M,(Z _ (hc _ _ H rfl)).trans H⟩
 ·obtain⟨I,J,M,H⟩:=h.h3 hk;exact⟨I,J,by rw[U];exact M,(Z _ (Ne.symm (h.Po rfl hk))).trans H⟩
theorem CI.s8(h:CI q W₂ W Sw aI k0 true k2 true k4 false v7 v8 v11 v12 c1 c2 b7 b8):CI q W₂ (W.setRow b8 #[.chan (some c2)]) Sw aI k0 true k2 true k4 true v7 v8 v11 v12 c1 c2 b7 b8:=by
 obtain⟨I,J,M,H⟩:=h.h3 rfl;have U:(W.setRow b8 #[.chan (some c2)]).heap.size=W.heap.size:=setRow_size ..;have Z:∀b,b≠b8->(W.setRow b8 #[.chan (some c2)]).heap[b]? = W.heap[b]?:=λb hb=>setRow_other _ _ _ _ hb
 have hc:∀b o,W.heap[b]? = some o->o=A9->b≠b8:=λb o e1 e2 e=>by subst e;rw[H] at e1;cases e1;cases e2
 refine⟨by rw[U];exact h.size,λb hb=>(Z b bB).trans (h.old b hb),h.sw,λhk=>?_,λhk=>?_,λhk=>?_,λ_=>⟨I,J,by rw[U];exact M,setRow_heap _ _ _ _ _ _ H⟩,h.h4,λ_=>⟨rfl,rfl⟩,h.ne,h.Po,(oK _ _ _).1.trans h.env.1,(oK _ _ _).2.trans h.env.2⟩
 ·obtain⟨I,J,M,H⟩:=h.h0 hk;exact⟨I,J,by rw[U];exact M,(Z _ (hc _ _ H rfl)).trans H⟩
 ·obtain⟨I,J,M,H⟩:=h.h1 hk;exact⟨I,J,by rw[U];exact M,(Z _ (hc _ _ H rfl)).trans H⟩
 ·obtain⟨I,J,M,H⟩:=h.h2 hk;exact⟨I,J,by rw[U];exact M,(Z _ (h.Po hk rfl)).trans H⟩
theorem aaf(É:∀b,Sw b->b<W₂.heap.size)(e:CI q W₂ W Sw aI k0 k1 k2 k3 k4 k5 v7 v8 v11 v12 c1 c2 b7 b8){X Y:Value}{wk b3 b5:Nat}{K:List Item}{cs:List Frame}{i:Nat}{l:List Nat}(hi:i∈Region.ready .any (qd q) #[k0,k1,k2,k3,k4,k5])
  (Z:∀W aI Mf k1' k2' Mg Mh Mi v7 v8 v11 v12 c1 c2 b7 b8,CI q W₂ W Sw aI Mf k1' k2' Mg Mh Mi v7 v8 v11 v12 c1 c2 b7 b8->#[Mf,k1',k2',Mg,Mh,Mi]=(#[k0,k1,k2,k3,k4,k5]:Array Bool).setIfInBounds i true->aM prog Q N aI 0 W (G ((base (fD q)).at ⟨(El X Y wk b3 b5 v7 v8 v11 v12).toArray,[]⟩ (.inRegion (qd q) l::K)) cs)) :
  aM prog Q N aI 0 W (G ((base (fD q)).at ⟨(El X Y wk b3 b5 v7 v8 v11 v12).toArray,[]⟩ (.inRegion (qd q) (i::l)::K)) cs):=by
 have hc:=abN q;cases q;all_goals
 simp only[tC] at hc;rcases Me _ _ _ _ _ _ _ _ hi with⟨rfl,rfl⟩|⟨rfl,rfl⟩|⟨rfl,rfl⟩|⟨rfl,rfl⟩|⟨rfl,rfl,rfl,rfl⟩|⟨rfl,rfl,rfl,rfl⟩
 ·have hn:=Z _ _ _ _ _ _ _ _ _ _ _ _ _ _ _ _ e.aeH rfl;simp only[qd,iC,Tryz.f37,Tryz.f47,fD,Option.getD_some,El,List.replicate,cons_append,nil_append] at hn ⊢;refine aM.make (mk:=λb=>.chan (some b)) (λw=>?_) (λw=>?_) (λb h=>.inl h) (λb h=>h) hn
  ·simp only[execOp];simp[go_sem];exact congrArg (λr=>Result.andThen r _) (abL w)
  ·simp only[execOp];simp[go_sem];exact abM w
 ·have hn:=Z _ _ _ _ _ _ _ _ _ _ _ _ _ _ _ _ e.aeI rfl;simp only[qd,iC,Tryz.f37,Tryz.f47,fD,Option.getD_some,El,List.replicate,cons_append,nil_append] at hn ⊢;refine aM.make (mk:=λb=>.chan (some b)) (λw=>?_) (λw=>?_) (λb h=>.inl h) (λb h=>h) hn
  ·simp only[execOp];simp[go_sem];exact congrArg (λr=>Result.andThen r _) (hc w).1
  ·simp only[execOp];simp[go_sem];exact (hc w).2
 ·have hn:=Z _ _ _ _ _ _ _ _ _ _ _ _ _ _ _ _ e.aeJ rfl;simp only[qd,iC,Tryz.f37,Tryz.f47,fD,Option.getD_some,El,List.replicate,cons_append,nil_append] at hn ⊢;refine aM.make (mk:=λb=>.pointer (some ⟨b,0,none⟩)) (λw=>?_) (λw=>?_) (λb h=>h) (λb h=>.inl h) hn
  ·simp only[execOp];simp[go_sem]
  ·simp only[execOp];simp[go_sem]
 ·have hn:=Z _ _ _ _ _ _ _ _ _ _ _ _ _ _ _ _ e.aeK rfl;simp only[qd,iC,Tryz.f37,Tryz.f47,fD,tC,Option.getD_some,El,List.replicate,cons_append,nil_append] at hn ⊢;refine aM.make (mk:=λb=>.pointer (some ⟨b,0,none⟩)) (λw=>?_) (λw=>?_) (λb h=>h) (λb h=>.inl h) hn
  ·simp only[execOp];simp[go_sem]
  ·simp only[execOp];simp[go_sem]
 ·have hn:=Z _ _ _ _ _ _ _ _ _ _ _ _ _ _ _ _ e.s7 rfl;obtain⟨e7,l7,m7,H⟩:=e.h2 rfl;obtain⟨I,l11,m11,a11⟩:=e.h0 rfl;have U:¬ aI b7:=λh=>by
   rcases (e.sw _).1 h with h|⟨J,M⟩|⟨J,M⟩
   ·exact absurd (É _ h) bB
   ·have:=(e.h0 J).2.2.2;rw[<-M,H] at this;cases this
   ·have:=(e.h1 J).2.2.2;rw[<-M,H] at this;cases this
  subst e7 I;simp only[qd,iC,Tryz.f37,Tryz.f47,fD,Option.getD_some,El,List.replicate,cons_append,nil_append] at hn ⊢;refine aM.store (off:=0) (vs:=[.chan (some c1)]) (cur:=#[.chan none]) rfl (λu hu=>by simp at hu;subst hu;rfl) ?_ U H eO hn;kernel_rfl
 ·have hn:=Z _ _ _ _ _ _ _ _ _ _ _ _ _ _ _ _ e.s8 rfl;obtain⟨e7,l7,m7,H⟩:=e.h3 rfl;obtain⟨I,l11,m11,a11⟩:=e.h1 rfl;have U:¬ aI b8:=λh=>by
   rcases (e.sw _).1 h with h|⟨J,M⟩|⟨J,M⟩
   ·exact absurd (É _ h) bB
   ·have:=(e.h0 J).2.2.2;rw[<-M,H] at this;cases this
   ·have:=(e.h1 J).2.2.2;rw[<-M,H] at this;cases this
  subst e7 I;simp only[qd,iC,Tryz.f37,Tryz.f47,fD,Option.getD_some,El,List.replicate,cons_append,nil_append] at hn ⊢;refine aM.store (off:=0) (vs:=[.chan (some c2)]) (cur:=#[.chan none]) rfl (λu hu=>by simp at hu;subst hu;rfl) ?_ U H eO hn;kernel_rfl
def Iz(k0 k1 k2 k3 k4 k5:Bool):Nat:=(if k0 then 0 else 1)+(if k1 then 0 else 1)+(if k2 then 0 else 1)+(if k3 then 0 else 1)+(if k4 then 0 else 1)+(if k5 then 0 else 1)
theorem UD:∀q k0 k1 k2 k3 k4 k5:Bool,∀i∈Region.ready .any (qd q) #[k0,k1,k2,k3,k4,k5],∀I e H J M U:Bool,#[I,e,H,J,M,U]=(#[k0,k1,k2,k3,k4,k5]:Array Bool).setIfInBounds i true->Iz I e H J M U+1=Iz k0 k1 k2 k3 k4 k5:=by
 intro q k0 k1 k2 k3 k4 k5 i Z I e H J M U he;rcases Me _ _ _ _ _ _ _ _ Z with⟨rfl,rfl⟩|⟨rfl,rfl⟩|⟨rfl,rfl⟩|⟨rfl,rfl⟩|⟨rfl,rfl,_⟩|⟨rfl,rfl,_⟩<;>(simp at he;obtain⟨rfl,rfl,rfl,rfl,rfl,rfl⟩:=he;simp[Iz]<;>omega)
theorem aeL(É:∀b,Sw b->b<W₂.heap.size){X Y:Value}{wk b3 b5:Nat}{K:List Item}{cs:List Frame}
  (hT:∀W aI v7 v8 v11 v12 c1 c2 b7 b8,CI q W₂ W Sw aI true true true true true true v7 v8 v11 v12 c1 c2 b7 b8->aM prog Q N aI 0 W (G ((base (fD q)).at ⟨(El X Y wk b3 b5 v7 v8 v11 v12).toArray,[]⟩ (.inRegion (qd q) []::K)) cs)) :
  ∀n k0 k1 k2 k3 k4 k5 W aI v7 v8 v11 v12 c1 c2 b7 b8 l,Iz k0 k1 k2 k3 k4 k5=n->CI q W₂ W Sw aI k0 k1 k2 k3 k4 k5 v7 v8 v11 v12 c1 c2 b7 b8->Ord .any (qd q) n #[k0,k1,k2,k3,k4,k5] l->aM prog Q N aI 0 W (G ((base (fD q)).at ⟨(El X Y wk b3 b5 v7 v8 v11 v12).toArray,[]⟩ (.inRegion (qd q) l::K)) cs):=by
 intro n;induction n with
 | zero=>
  intro k0 k1 k2 k3 k4 k5 W aI v7 v8 v11 v12 c1 c2 b7 b8 l hn h e;have hl:=e;subst hl;have:k0=true/\k1=true/\k2=true/\k3=true/\k4=true/\k5=true:=by
   revert hn;unfold Iz;cases k0<;>cases k1<;>cases k2<;>cases k3<;>cases k4<;>cases k5<;>simp
  obtain⟨rfl,rfl,rfl,rfl,rfl,rfl⟩:=this;exact hT _ _ _ _ _ _ _ _ _ _ h
 | succ n ih=>
  intro k0 k1 k2 k3 k4 k5 W aI v7 v8 v11 v12 c1 c2 b7 b8 l hn h e;rcases e with⟨hr,_⟩|⟨i,hi,l',rfl,e⟩
  ·obtain⟨rfl,rfl,rfl,rfl,rfl,rfl⟩:=aae _ _ _ _ _ _ _ hr;simp[Iz] at hn
  ·refine aaf É h hi λW' H Mf k1' k2' Mg Mh Mi v7' v8' I J Z c2' M U h' he=>?_
   have hc:=UD _ _ _ _ _ _ _ _ hi _ _ _ _ _ _ he;rw[<-he] at e;exact ih _ _ _ _ _ _ _ _ _ _ _ _ _ _ _ _ _ bB h' e
end
structure DnF(q:Bool)(W W':World)(Sw aI:Nat->Prop)(X Y:Value)(b3 b5 b7 b8 c1 c2 Wg:Nat):Prop where
 size:W.heap.size<=W'.heap.size
 old:∀b,b<W.heap.size->W'.heap[b]? = W.heap[b]?
 sw:∀b,aI b↔Sw b\/b=c1\/b=c2\/b=Wg
 lo:∀b,b=b3\/b=b5\/b=b7\/b=b8\/b=c1\/b=c2->W.heap.size<=b/\b<Wg
 h3:W'.heap[b3]? = some (.cells #[X] (tX q) (0,0))
 h5:W'.heap[b5]? = some (.cells #[Y] (tY q) (0,0))
 h7:W'.heap[b7]? = some (.cells #[.chan (some c1)] 106 (0,0))
 h8:W'.heap[b8]? = some (.cells #[.chan (some c2)] (tC q) (0,0))
 n1:W'.heap[c1]? = some A9
 n2:W'.heap[c2]? = some A9
 g:W'.heap[Wg]? = some (wgBlock 115 0 0)
 ne:c1≠c2
 env:W'.os=W.os/\W'.output=W.output
def YG(X Y:Value)(wk b3 b5 b7 b8 Wg:Nat)(j:Nat->Value):List Value:=[X,goInt wk,Y,.pointer (some ⟨b3,0,none⟩),j 4,.pointer (some ⟨b5,0,none⟩),.slice none 0 0,.pointer (some ⟨b7,0,none⟩),.pointer (some ⟨b8,0,none⟩),.pointer (some ⟨Wg,0,none⟩),j 10,j 11,j 12,goInt wk,j 14,j 15,j 16,j 17,j 18,j 19,j 20,j 21,j 22,j 23,j 24,j 25,j 26]
noncomputable def tZ(q:Bool)(X Y:Value)(wk i b3 b5 b7 b8 Wg:Nat)(j:Nat->Value)(cs:List Frame):Goroutine:=G ((base (fD q)).at ⟨(YG X Y wk b3 b5 b7 b8 Wg (λs=>if s=14 then goInt i else j s)).toArray,[]⟩ [.code (jR q),.inLoop (jR q),.inBlock 0,.code (fJ q)]) cs
theorem Rh{q:Bool}{T:Goroutine->Prop}{X Y:Value}{wk i b3 b5 b7 b8 Wg:Nat}{cs:List Frame}(e:∀j,T (tZ q X Y wk i b3 b5 b7 b8 Wg j cs))(L:List Value)(hL:L=YG X Y wk b3 b5 b7 b8 Wg (λs=>if s=14 then goInt i else L.getD s undef)):T (G ((base (fD q)).at ⟨L.toArray,[]⟩ [.code (jR q),.inLoop (jR q),.inBlock 0,.code (fJ q)]) cs):=by
 rw[hL];exact e _
theorem Mj(q:Bool){Q:Machine->Outcome->World->Trace->Prop}{N:Nat}{Sw:Nat->Prop}{W:World}(É:∀b,Sw b->b<W.heap.size){X Y:Value}(hX:∃M n cp,X = .slice M n cp)(hY:∃f,Y = .func (.func f) #[] #[]){wk:Nat}{cs:List Frame}
  (hT:∀W' aI b3 b5 b7 b8 c1 c2 Wg,DnF q W W' Sw aI X Y b3 b5 b7 b8 c1 c2 Wg->∀j,aM prog Q N aI 0 W' (tZ q X Y wk 0 b3 b5 b7 b8 Wg j cs)) :
  aM prog Q N Sw 0 W (G ((base (fD q)).at ⟨([X,goInt wk,Y]++List.replicate 24 undef:List Value).toArray,[]⟩ [.code (iC q)]) cs):=by
 obtain⟨t,Z⟩:=aJ (tX q);obtain⟨u,hu⟩:=aJ (tY q);have go:=@aeL q;cases q;all_goals
 have k:bR prog true (aM prog Q N Sw 0 W):=fB;refine k.seq ?_;refine k.region ?_;refine aM.make (aI:=Sw) (ob:=.cells #[X] t) (mk:=λb=>.pointer (some ⟨b,0,none⟩)) ?_ ?_ (λb h=>h) (λb h=>.inl h) ?_
 ·intro w;obtain⟨M,n,cp,rfl⟩:=hX;simp[go_sem,Z,tX]
 ·intro w;simp[go_sem]
 walk_nrm;refine aM.make (aI:=Sw) (ob:=.cells #[Y] u) (mk:=λb=>.pointer (some ⟨b,0,none⟩)) ?_ ?_ (λb h=>h) (λb h=>.inl h) ?_
 ·intro w;obtain⟨f,rfl⟩:=hY;simp[go_sem,hu,tY]
 ·intro w;simp[go_sem]
 walk_nrm;have U:(W.alloc (.cells #[X] t)).heap.size=W.heap.size+1:=World.size_alloc ..;obtain⟨W₂,e⟩:=aJ ((W.alloc (.cells #[X] t)).alloc (.cells #[Y] u));have e2:W₂.heap.size=W.heap.size+2:=by rw[e,World.size_alloc];omega
 have o2:∀b,b<W.heap.size->W₂.heap[b]? = W.heap[b]?:=λb I=>by rw[e,jJ _ _ bB,jJ _ _ I]
 have n3:W₂.heap[W.heap.size]? = some (.cells #[X] t (0,0)):=by rw[e,jJ _ _ bB,wu]
 have n5:W₂.heap[W.heap.size+1]? = some (.cells #[Y] u (0,0)):=by rw[e,<-U,wu]
 have J:W₂.os=W.os/\W₂.output=W.output:=by rw[e];exact⟨rfl,rfl⟩
 rw[U,<-e];have k:bR prog true (aM prog Q N Sw 0 W₂):=fB;refine k.op ?_;refine k.done ?_;refine k.seq ?_;refine aM.drawn rfl λl hl=>?_
 refine go (Sw:=Sw) (W₂:=W₂) (λb I=>by have:=É b I;omega) (X:=X) (Y:=Y) (wk:=wk) (b3:=W.heap.size) (b5:=W.heap.size+1) ?_ 6 false false false false false false W₂ Sw undef undef undef undef 0 0 0 0 l rfl ⟨le_refl _,λ_ _=>rfl,λb=>eO,(λh=>(by cases h)),(λh=>(by cases h)),(λh=>(by cases h)),(λh=>(by cases h)),(λh=>(by cases h)),(λh=>(by cases h)),(λh=>(by cases h)),(λh=>(by cases h)),rfl,rfl⟩ hl;intro W' aI v7 v8 v11 v12 c1 c2 b7 b8 h;have k:bR prog true (aM prog Q N aI 0 W'):=fB;refine k.done ?_;obtain⟨rfl,l1,m1,a1⟩:=h.h0 rfl;obtain⟨rfl,l2,m2,a2⟩:=h.h1 rfl;obtain⟨rfl,l7,m7,a7⟩:=h.h2 rfl;obtain⟨rfl,l8,m8,a8⟩:=h.h3 rfl;refine k.seq ?_;refine k.region ?_;refine aM.make (aI:=λb=>aI b\/b=W'.heap.size) (ob:=wgBlock 115 0 0) (mk:=λb=>.pointer (some ⟨b,0,none⟩)) ?_ ?_ (λb h=>.inl h) (λb h=>h) ?_
 ·intro w;simp[go_sem];rfl
 ·intro w;simp[go_sem]
 walk_nrm;have es:(W'.alloc (wgBlock 115 0 0)).heap.size=W'.heap.size+1:=World.size_alloc ..;have k:bR prog true (aM prog Q N (λb=>aI b\/b=W'.heap.size) 0 (W'.alloc (wgBlock 115 0 0))):=fB;refine k.done ?_;refine k.seq ?_;refine k.seq ?_;refine k.region ?_;refine k.op ?_;refine k.op ?_;refine k.done ?_;refine k.block ?_;refine k.loop ?_;have Ϣ:=h.size;subst Z hu;have H:∀b o,b<W'.heap.size->W'.heap[b]? = o->(W'.alloc (wgBlock 115 0 0)).heap[b]? = o:=λb o I ho=>(jJ _ _ I).trans ho
 refine Rh (hT (W'.alloc (wgBlock 115 0 0)) (λb=>aI b\/b=W'.heap.size) W.heap.size (W.heap.size+1) b7 b8 c1 c2 W'.heap.size ⟨bB,λb I=>H b _ bB ((h.old b bB).trans (o2 b I)),λb=>?_,λb I=>?_,
  H _ _ bB ((h.old _ bB).trans n3),H _ _ bB ((h.old _ bB).trans n5),H _ _ m7 a7,H _ _ m8 a8,H _ _ m1 a1,H _ _ m2 a2,wu ..,h.ne rfl rfl,h.env.1.trans J.1,h.env.2.trans J.2⟩) _ ?_
 ·rw[h.sw];simp;exact⟨λx=>by rcases x with (x|x|x)|x<;>simp[x],λx=>by rcases x with x|x|x|x<;>simp[x]⟩
 ·rcases I with rfl|rfl|rfl|rfl|rfl|rfl<;>omega
 rfl
end Go.Proofs.YtnonoiafongllaaGreatDoor
namespace Px
open Go Go.Conc
section
variable {P:Program} {Q:Machine->Outcome->World->Trace->Prop} {N:Nat} {Sw:Nat->Prop} {dm:Nat} {W:World} {g:Goroutine} {S:aR} {O:Nat->Prop}
theorem Al.solo'{Ro:Nat->Prop}(R:mg P Ro S g W O):∀ {gs:Array Goroutine} {t:Trace},Al P Sw dm gs W t g->(∀b,Ro b->b<W.heap.size/\¬ Sw b)->(∀b,O b->b<W.heap.size/\¬ Sw b) ->
  (∀H W' t' g',Al P Sw dm H W' t' g'->H.size=gs.size->(∃O,S g' W' O/\∀b,O b->b<W'.heap.size/\¬ Sw b)->gK P Q H W' t')->gK P Q gs W t:=by
 induction R with
 | @stop g W O h=>exact λA M ho U=>U _ _ _ _ A rfl ⟨_,h W.drawn,ho⟩
 | @step g W O h1 _ ih=>
  intro gs t A M ho U;have hs:∀b,Sw b->b<W.heap.size:=by
   obtain⟨⟨p,rl,h,_,rfl,_,_⟩,_,_⟩:=A;exact λb J=>h.wi.ap.pV b J
  refine A.sure λH t' d A' hz d' sl=>?_
  obtain⟨g',w',es,e1,e2,I⟩:=h1 d';obtain⟨f1,f2⟩:=Z4 I M ho hs;refine A'.step (aI:=Sw) (jQ:=dm) e1 I.size ⟨I.os,I.output⟩ (λ_ h=>h) (λ_ h=>.inl h) f2 (Conc.deafBehind_still (λe he=>?_) dm) e2 λgs'' t'' Md hz'=>ih d' g' w' es e1 Md (λb J=>⟨lt_of_lt_of_le (M b J).1 I.size,(M b J).2⟩) f1 λZ W3 t3 g3 A3 hz3 hS=>U Z W3 t3 g3 A3 bB hS
  cases I.evs e he<;>exact⟨(λh=>(by cases h)),(λh=>(by cases h))⟩
structure Mk(O:Nat->Prop)(W W':World):Prop where
 size:W.heap.size<=W'.heap.size
 old:∀b,b<W.heap.size->¬ O b->W'.heap[b]? = W.heap[b]?
 os:W'.os=W.os
 output:W'.output=W.output
theorem mg.frame{P:Program}{Ro:Nat->Prop}{S:aR}{g:Goroutine}{w:World}{O:Nat->Prop}(R:mg P Ro S g w O):mg P Ro (λg' w' O'=>S g' w' O'/\Mk O w w'/\∀b,O' b->O b\/w.heap.size<=b) g w O:=by
 induction R with
 | stop h=>exact .stop λd=>⟨h d,⟨le_refl _,λ_ _ _=>rfl,rfl,rfl⟩,λ_ h=>.inl h⟩
 | @step g w O h1 _ ih=>
  refine .step h1 λd g' w' es e=>(ih d g' w' es e).mono ?_
  rintro g2 w2 Z ⟨hS,hF,hG⟩;obtain⟨g3,w3,U,M,_,H⟩:=h1 d;rw[e] at M;injection M with a1 a2 a3;subst a2;refine⟨hS,⟨le_trans H.size hF.size,λb J hn=>?_,hF.os.trans H.os,hF.output.trans H.output⟩,λb J=>?_⟩;refine (hF.old b (lt_of_lt_of_le J H.size) λI=>?_).trans (H.old b J hn);rcases I with I|⟨I,_⟩
  ·exact hn I
  ·have I:w.heap.size<=b:=I;omega
  rcases hG b J with (h|⟨h,_⟩)|h
  ·exact .inl h
  ·exact .inr h
  ·exact .inr (le_trans H.size h)
theorem aM.Dz{Ro:Nat->Prop}(hR:∀d,mg P Ro S g (W.at d) O)(I:∀b,Ro b->b<W.heap.size/\¬ Sw b)(J:∀b,O b->b<W.heap.size/\¬ Sw b)(hn:∀g' W' O',S g' W' O'->(∀b,Sw b->b<W'.heap.size)->(∀b,O' b->b<W'.heap.size/\¬ Sw b)->(∀b,O' b->O b\/W.heap.size<=b)->Mk O W W'->aM P Q N Sw dm W' g'):aM P Q N Sw dm W g:=by
 intro gs t d U A;refine Al.solo' (hR d).frame A I J λe W' t' g' A' M ⟨O',⟨hS,hF,hG⟩,H⟩=>hn g' W' O' hS A'.bound H hG ⟨hF.size,hF.old,hF.os,hF.output⟩ e t' W'.drawn bB A'
end
section
variable {F:Fs} {P:Program} {k:Ok} {N:Nat} {Q:Machine->Outcome->World->Trace->Prop} {Sw:Nat->Prop} {W:World}
theorem aeM(S:Setup F P k){base:Nat}{M:Bl}{cs0:List Frame}{O0:Nat->Prop}(Ú:GB F P k M)(fI:∀a b,M a b->O0 b)(ç:∀b,O0 b->base<=b)
  (hin:∀f,F.fk f->P.inits.idxOf? f=none) {wL w:World} {ā:Array Obj} (H:HR F (KK P k) base M ā w.heap) {b:Frame} {a a':Act} {c:Code} (hc:dR P k c=true) (hb:F.fk b.fn) (ķ:b.kind = .normal)
  (ht:aX F M a.tmps a'.tmps) (hd:a.defers = []) (hd':a'.defers = []) (PR:Act->Array Obj->Prop)
  (U:∃fr:Frame,P.funcs[fr.fn]? = none/\fr.defers = []/\∀l,(fr.raise l).catches P=true)
  (C:∀T d,c.wp P (λe a w=>a.defers = []/\e = .ret/\PR a w.heap) a (at_ wL ā T d)) :
  mg P EZ (Ky F P k base M b cs0 (λ_ _=>False) PR) (Conc.G (b.at a' [.code c]) cs0) w O0:=by
 refine mg.mono (S:=Dm F P k base M cs0 (StW b (λ_ _=>False) PR)) ?_ λ_ _ _ h=>EW ķ h
 exact xD S (main:=true) (cs0:=cs0) _ Dw (λ_=>trivial) Ú (λa b h=>.inr (fI a b h)) (λ_ h=>h.elim) ç hin H (f0:=b.at a [.code c]) (Jo:=b.at a' [.code c]) ⟨rfl,ķ,ķ,ht,.cons (.code hc) .nil,by rw[show (b.at a _).defers=a.defers from rfl,show (b.at a' _).defers=a'.defers from rfl,hd,hd'];exact .nil,.run,.none,hb⟩ rfl
  U (λfr h c hx e=>by
   obtain⟨_,_,_,_,⟨hm,_⟩|⟨hm,_⟩⟩:=hx<;>rw[hm] at e<;>cases e) λT d tail=>by
   obtain⟨e,J,Z,⟨I,rfl,hq⟩,φ⟩:=C T d b [] tail;have ea:J=⟨J.tmps,[]⟩:=by cases J;simp only at I;rw[I]
   obtain⟨todo,N,hN⟩:=φ;exact⟨N,_,Z,hN,rfl,rfl,rfl,I,.inr ⟨rfl,by rw[ea] at hq;exact hq⟩⟩
structure Mn(F:Fs)(k:Ok)(Sw X:Nat->Prop)(W:World):Prop where
 sw:∀b,X b->¬ Sw b
 cells:∀b,X b->∃xs t z,W.heap[b]? = some (.cells xs t z)
 gl:∀g,k.gl g=true->X g
 ex:X F.G
 G:F.G<W.heap.size
 kF:F.kF=true
 ct:YA F X W.heap
structure After(F:Fs)(P:Program)(k:Ok)(Sw X:Nat->Prop)(W:World)(hL:Array Obj)(B:Bl)(W':World):Prop where
 hr:HR F (KK P k) 0 B hL W'.heap
 ext:Ext (mO X) B
 own:∀a b,B a b->b<W'.heap.size/\¬ Sw b
 kF:F.kF=true
 sw:∀b,Sw b->b<W'.heap.size
 fr:Mk X W W'
 new:∀a b,B a b->X b\/W.heap.size<=b
noncomputable def kZ(F:Fs)(X:Nat->Prop)(W:World)(T:Nat->Question->Nat)(d:Nat):World:=at_ W (lQ F X W.heap) T d
variable {X:Nat->Prop}
theorem Mn.hr(M:Mn F k Sw X W):HR F (KK P k) 0 (mO X) (lQ F X W.heap) W.heap:=HR.ahf M.cells M.G M.ct
theorem Mn.gb(M:Mn F k Sw X W)(hG:F.G=P.globals.size):GB F P k (mO X):=⟨λg h=>⟨rfl,M.gl g h⟩,λ_ _=>⟨hG,rfl,M.ex⟩⟩
theorem Mn.lt(M:Mn F k Sw X W){b:Nat}(h:X b):b<W.heap.size:=by
 obtain⟨H,t,z,e⟩:=M.cells b h;exact (Array.getElem?_eq_some_iff.1 e).1
theorem Mn.cell(M:Mn F k Sw X W){T:Nat->Question->Nat}{d:Nat}{p:Addr}{v:Value}(H:X p.block)(U:VR F (mO X) v v)(hc:W.cell? p=some v)(È:¬ F.cut p.block):(kZ F X W T d).cell? p=some v:=by
 obtain⟨Z,t,z,e⟩:=M.cells _ H;have I:(kZ F X W T d).heap[p.block]? = some (.cells (Z.map (jn F X)) t z):=Dy H È e;simp only[World.cell?,e] at hc;simp only[World.cell?,I];split at hc
 ·cases hc
 ·rename_i J;rw[if_neg J];rw[Array.getElem?_map,hc];simp[eD U]
theorem Mn.size{T:Nat->Question->Nat}{d:Nat}:(kZ F X W T d).heap.size=W.heap.size:=Ca
theorem After.val{hL:Array Obj}{B:Bl}{W':World}(A:After F P k Sw X W hL B W'){v e:Value}(H:Pv F X v)(h:VR F B v e):e=v:=Pv.yT (A.hr.yT A.kF).2 H h
def iy(h:Array Obj)(a:Addr):Option Value:=match h[a.block]? with
 | some (.cells c _ _)=>if a.spot.isSome then none else c[a.off]?
 | _=>none
theorem After.cell{hL:Array Obj}{B:Bl}{W':World}(A:After F P k Sw X W hL B W'){p:Addr}{v:Value}(U:B p.block p.block)(hc:iy hL p=some v):∃I,W'.cell? p=some I/\VR F B v I:=by
 obtain⟨o,o',J,M,H⟩:=A.hr.obj _ _ U;simp only[iy,J] at hc;simp only[World.cell?,M];rcases H with H|⟨_,ys,t,rfl,rfl,_⟩;rotate_left
 ·simp at hc
 cases H with
 | cells t hv hz=>
  simp only at hc ⊢;split at hc
  ·cases hc
  ·rename_i Z;rw[if_neg Z];rcases hv.get? p.off with⟨e,_⟩|⟨u,u',e,e',hr⟩
   ·rw[e] at hc;cases hc
   ·rw[e] at hc;cases hc;exact⟨u',e',hr⟩
 | _=>cases hc
theorem After.Ri{hL:Array Obj}{B:Bl}{W':World}(M:Mn F k Sw X W)(A:After F P k Sw X W hL B W'){b:Nat}(e:F.cut b):W'.heap[b]? = W.heap[b]?:=(A.hr.co b e).2.trans (M.ct b e).2.1
theorem After.kept{hL:Array Obj}{B:Bl}{W':World}(M:Mn F k Sw X W)(A:After F P k Sw X W hL B W')(e:∀b,b<W.heap.size->hL[b]? = (lQ F X W.heap)[b]?){p:Addr}{v:Value}(H:X p.block)(I:Pv F X v)(hc:W.cell? p=some v):W'.cell? p=some v:=by
 by_cases J:F.cut p.block
 ·simpa only [World.cell?,A.Ri M J] using hc
 have U:iy hL p=some v:=by
  have:=M.cell (T:=λ_ _=>0) (d:=0) H I.self hc J;unfold iy;rw[e _ (M.lt H)];exact this
 obtain⟨v',Z,h3⟩:=A.cell (A.ext _ _ ⟨rfl,H⟩) U;rw[Z,A.val I h3]
theorem ze(M:Mn F k Sw X W):∀b,X b->b<W.heap.size/\¬ Sw b:=λb e=>⟨M.lt e,M.sw b e⟩
theorem aM.call(b:Base F P k)(M:Mn F k Sw X W){f:FuncId}{c:Frame}{cs:List Frame}{args:List Value}(Ē:QK P f)(hf:F.fn f)(ha:∀v∈args,Self F X v)(H:Value->Array Obj->Prop)
  (C:∀T d,Calls P f args.toArray (kZ F X W T d) λe w'=>∃v,e = .returned v/\H v w'.heap)
  (hn:∀v v' W' B hL,VR F B v v'->After F P k Sw X W hL B W'->H v hL->aM P Q N Sw 0 W' (G (c.finish v') cs)):aM P Q N Sw 0 W (G (Frame.enter P f args.toArray .normal) (c::cs)):=by
 obtain⟨fn,r1,r2⟩:=Ē;have hv:=O5 ha;refine aM.Dz (Ro:=EZ) (O:=X) (S:=Dm F P k 0 (mO X) (c::cs) λI h=>I.fn=f/\I.mode = .returning/\I.defers = []/\∃v,Conc.ResultsC P fn I.tmps v/\H v h) (λd=>?_) (λ_ h=>h.elim) (ze M) ?_
 ·refine xD b.S (main:=true) (Ro:=EZ) _ Dw (λ_=>trivial) (M.gb b.S.G) (λa b h=>.inr (h.1 ▸ h.2)) (λ_ h=>h.elim) (λ_ _=>zero_le _) b.hin (wL:=W) (w:=W.at d) M.hr (Lr b.S hf hv) rfl b.trap (λI h c hx e=>by rw[hx.2.1] at e;cases e) λT d tail=>?_
  obtain⟨e,w',I,⟨v,rfl,hp⟩,⟨N,hN⟩,Z,l1,l2,_,fn2,l4,l5⟩:=C T d tail;rw[Z,r1] at l4;cases l4;have hR:∃v1,Conc.ResultsC P fn I.tmps v1:=by
   rcases r2 with h|⟨t,h⟩|⟨t,u,h⟩
   ·exact⟨_,Conc.resultsC_none h _⟩
   ·exact⟨_,Conc.resultsC_tmp h _⟩
   ·exact⟨_,Conc.resultsC_tmp2 h _⟩
  obtain⟨v1,Ŝ⟩:=hR;have:=(Ŝ w').1;rw[l5] at this;injection this with this;subst this;exact⟨N,I,w',hN,Z,l1,l2,v,Ŝ,hp⟩
 ·rintro g' W' O' ⟨fL,J,B,hL,rfl,e2,e3,e4,e5,f1,f2,f3,v,f4,f5⟩ ϣ hO hnw ĥ;have A:After F P k Sw X W hL B W':=⟨e3,e4,λa b U=>(e5 a b U).elim (λh=>⟨by have:=(e3.lt U).2;exact this,M.sw _ (h.1 ▸ h.2)⟩) (hO b),M.kF,ϣ,ĥ,λa b U=>(e5 a b U).elim (λh=>.inl (h.1 ▸ h.2)) (hnw b)⟩;obtain⟨q1,q2,q3,q4,q5,q6,q7,q8,q9⟩:=e2;have dC:J.defers = []:=by
   rw[f3] at q6;cases hx:J.defers with
   | nil=>rfl
   | cons _ _=>rw[hx] at q6;cases q6
  have hm:J.mode = .returning:=by
   rw[f2] at q7;generalize J.mode=md at q7;cases md<;>first|rfl|cases q7
  have Z:J.fn=f:=by rw[<-q1];exact f1
  obtain⟨v1,v1',g1,g2,g3⟩:=Yn (P:=P) (F:=F) (fn:=fn) r2 q4;have:v1=v:=by
   have a1:=(g1 W').1;have a2:=(f4 W').1;rw[a1] at a2;injection a2
  subst this;have k1:bR P true (aM P Q N Sw 0 W'):=fB;refine k1.step rfl rfl (λw=>gP (v:=v1') hm dC (by exact q3) (by rw[Z];exact r1) g2) (hn _ _ _ _ _ g3 A f5)
theorem Rj(e:List Value):aX F (mO X) (e.map (jn F X)).toArray e.toArray:=⟨eO,λi h h'=>by simpa using Kz (F:=F) (Ro:=X) (e[i]'(by simpa using h'))⟩
theorem aM.code(b:Base F P k)(M:Mn F k Sw X W){J:Frame}{cs:List Frame}{ts:List Value}{c:Code}(hc:dR P k c=true)(hK:∃x K,k.K = .code x::K)(hf:F.fk J.fn)(hk:J.kind = .normal)(PN PR:Act->Array Obj->Prop)
  (C:∀T d,c.wp P (λe a w=>a.defers = []/\((e = .normal/\PN a w.heap)\/(e = .ret/\PR a w.heap))) ⟨(ts.map (jn F X)).toArray,[]⟩ (kZ F X W T d))
  (ŭ:∀I H W' B hL,aX F B I.tmps H.tmps->H.defers = []->After F P k Sw X W hL B W'->PN I hL->aM P Q N Sw 0 W' (G (J.at H k.K) cs))
  (Ο:∀I H todo W' B hL,aX F B I.tmps H.tmps->H.defers = []->After F P k Sw X W hL B W'->PR I hL->aM P Q N Sw 0 W' (G { J.at H todo with mode:=.returning } cs)):aM P Q N Sw 0 W (G (J.at ⟨ts.toArray,[]⟩ (.code c::k.K)) cs):=by
 refine aM.Dz (O:=X) (λd=>aeD b.S (M.gb b.S.G) (λa b h=>h.1 ▸ h.2) (λ_ _=>zero_le _) b.hin (wL:=W) (w:=W.at d) (M.hr (P:=P)) hc hK hf hk (Rj ts) rfl rfl PN PR b.trap C) (λ_ h=>h.elim) (ze M) ?_;rintro g' W' O' ⟨I,H,B,hL,h1,h2,h3,h4,h5,h6,U⟩ ϣ hO hnw ĥ;have A:After F P k Sw X W hL B W':=⟨h4,h5,λa b Z=>(h6 a b Z).elim (λh=>⟨(h4.lt Z).2,M.sw _ (h.1 ▸ h.2)⟩) (hO b),M.kF,ϣ,ĥ,λa b Z=>(h6 a b Z).elim (λh=>.inl (h.1 ▸ h.2)) (hnw b)⟩;rcases U with⟨rfl,U⟩|⟨todo,rfl,U⟩
 ·exact ŭ _ _ _ _ _ h1 h3 A U
 ·exact Ο _ _ _ _ _ _ h1 h3 A U
theorem aM.tail(b:Base F P k)(M:Mn F k Sw X W){J:Frame}{cs:List Frame}{ts:List Value}{c:Code}(hc:dR P k c=true)(hf:F.fk J.fn)(hk:J.kind = .normal)(PR:Act->Array Obj->Prop)
  (C:∀T d,c.wp P (λe a w=>a.defers = []/\e = .ret/\PR a w.heap) ⟨(ts.map (jn F X)).toArray,[]⟩ (kZ F X W T d))
  (Ο:∀Z I todo W' B hL,aX F B Z.tmps I.tmps->I.defers = []->After F P k Sw X W hL B W'->PR Z hL->aM P Q N Sw 0 W' (G { J.at I todo with mode:=.returning } cs)):aM P Q N Sw 0 W (G (J.at ⟨ts.toArray,[]⟩ [.code c]) cs):=by
 refine aM.Dz (O:=X) (λd=>aeM b.S (M.gb b.S.G) (λa b h=>h.1 ▸ h.2) (λ_ _=>zero_le _) b.hin (wL:=W) (w:=W.at d) (M.hr (P:=P)) hc hf hk (Rj ts) rfl rfl PR b.trap C) (λ_ h=>h.elim) (ze M) ?_;rintro g' W' O' ⟨Z,I,B,hL,h1,h2,h3,h4,h5,h6,H⟩ ϣ hO hnw ĥ;have A:After F P k Sw X W hL B W':=⟨h4,h5,λa b U=>(h6 a b U).elim (λh=>⟨(h4.lt U).2,M.sw _ (h.1 ▸ h.2)⟩) (hO b),M.kF,ϣ,ĥ,λa b U=>(h6 a b U).elim (λh=>.inl (h.1 ▸ h.2)) (hnw b)⟩;rcases H with⟨_,H⟩|⟨todo,rfl,H⟩
 ·exact H.elim
 ·exact Ο _ _ _ _ _ _ h1 h3 A H
end
end Px
namespace Go.Proofs.YtnonoiafongllaaGreatDoor
open Go Go.Conc Px
def hF:Bool->Nat|true=>18|false=>26
noncomputable def mP:Bool->Code|true=>Tryz.f18.body.getD .skip|false=>Tryz.f26.body.getD .skip
noncomputable def xP:Bool->Code|true=>Tryz.f7.body.getD .skip|false=>Tryz.f13.body.getD .skip
noncomputable def ahj(q:Bool):Array Oper:=match mP q with | .seq _ (.seq (.seq _ (.cond _ (.seq (.region _ o _) _) _)) _)=>o|_=>#[]
noncomputable def ahk(q:Bool):Array Oper:=match mP q with | .seq _ (.seq _ (.seq (.seq _ (.cond _ (.seq (.region _ o _) _) _)) _))=>o|_=>#[]
noncomputable def uH(q:Bool):Array Oper:=match mP q with | .seq _ (.seq _ (.seq _ (.seq (.region _ o _) _)))=>o|_=>#[]
theorem JB{ops:Array Oper}(U:Region.ready .any ops #[false,false,false] = [0,1])(Z:Region.ready .any ops #[true,false,false] = [1])(hC:Region.ready .any ops #[false,true,false] = [0])(e:Region.ready .any ops #[true,true,false] = [2])
  {l:List Nat} (h:Px.Ord .any ops 3 #[false,false,false] l):l = [0,1,2]\/l = [1,0,2]:=by
 have H:(#[false,false,false]:Array Bool).setIfInBounds 0 true=#[true,false,false]:=rfl;have I:(#[false,false,false]:Array Bool).setIfInBounds 1 true=#[false,true,false]:=rfl;have J:(#[true,false,false]:Array Bool).setIfInBounds 1 true=#[true,true,false]:=rfl;have M:(#[false,true,false]:Array Bool).setIfInBounds 0 true=#[true,true,false]:=rfl;simp only[Px.Ord,U,mem_cons,not_mem_nil,or_false,reduceCtorEq,false_and,false_or] at h;obtain⟨i,rfl|rfl,l1,rfl,h⟩:=h
 ·rw[H] at h;simp only[Z,mem_cons,not_mem_nil,or_false,reduceCtorEq,false_and,false_or] at h;obtain⟨i,rfl,l2,rfl,h⟩:=h;rw[J] at h;simp only[e,mem_cons,not_mem_nil,or_false,reduceCtorEq,false_and,false_or] at h;obtain⟨i,rfl,l3,rfl,rfl⟩:=h;simp
 ·rw[I] at h;simp only[hC,mem_cons,not_mem_nil,or_false,reduceCtorEq,false_and,false_or] at h;obtain⟨i,rfl,l2,rfl,h⟩:=h;rw[M] at h;simp only[e,mem_cons,not_mem_nil,or_false,reduceCtorEq,false_and,false_or] at h;obtain⟨i,rfl,l3,rfl,rfl⟩:=h;simp
theorem abQ(q:Bool){l:List Nat}(h:Px.Ord .any (ahj q) 3 #[false,false,false] l):l = [0,1,2]\/l = [1,0,2]:=by cases q<;>exact JB (by decide +kernel) (by decide +kernel) (by decide +kernel) (by decide +kernel) h
theorem abR(q:Bool){l:List Nat}(h:Px.Ord .any (ahk q) 3 #[false,false,false] l):l = [0,1,2]\/l = [1,0,2]:=by cases q<;>exact JB (by decide +kernel) (by decide +kernel) (by decide +kernel) (by decide +kernel) h
section
variable {Sw:Nat->Prop} {N:Nat} {Q:Machine->Outcome->World->Trace->Prop} {W:World}
theorem Pp(q:Bool)(J:Option Addr)(n cp:Nat)(e:Int){vS vB:Value}{c:Frame}{cs:List Frame}(Ň:(n:Int)<=9223372036854775807)
  (U:W.cell? ⟨2,0,none⟩=some vS) (Z:¬ Sw 2) (h3:W.cell? ⟨3,0,none⟩=some vB) (n3:¬ Sw 3)
  (hS:e<1\/16<e->aM prog Q N Sw 0 W (G (c.finish (.tuple #[.slice none 0 0,vS])) cs))
  (hB:1<=e->e<=16->100<n->aM prog Q N Sw 0 W (G (c.finish (.tuple #[.slice none 0 0,vB])) cs))
  (hP:1<=e->e<=16->n<=100->aM prog Q N Sw 0 W (G ((base (fD q)).at ⟨([.slice J n cp,.int .i64 e,.func (.func (cF q)) #[] #[]]++List.replicate 24 undef:List Value).toArray,[]⟩ [.code (iC q)]) ((base (hF q)).at ⟨#[.slice J n cp,.int .i64 e,.func (.func (cF q)) #[] #[],undef,undef,undef,.slice none 0 0,.nilIface,.int .i64 e,.bool false,.bool false,.int .i64 e,.bool false,.bool false,undef,.slice J n cp,goInt n,.bool false,undef,.slice J n cp,.int .i64 e,.func (.func (cF q)) #[] #[],undef,undef,undef,undef],[]⟩ [.inRegion (uH q) [3,4,5,6,7,8],.code .ret]::c::cs))) :
  aM prog Q N Sw 0 W (G ((base (hF q)).at ⟨([.slice J n cp,.int .i64 e,.func (.func (cF q)) #[] #[]]++List.replicate 23 undef:List Value).toArray,[]⟩ [.code (mP q)]) (c::cs)):=by
 have r2:=@abQ q;have r4:=@abR q;cases q;all_goals
 have k:bR prog true (aM prog Q N Sw 0 W):=fB;simp only[mP,hF,Tryz.f18,Tryz.f26,Option.getD_some,List.replicate,cons_append,nil_append];refine k.seq ?_;refine k.region ?_;refine k.op ?_;refine k.op ?_;refine k.done ?_;refine k.seq ?_;refine k.seq ?_;refine k.region ?_;refine k.op ?_;by_cases M:e<1
 ·refine k.op (v:=.bool true) ?_ (h:=by exact congrArg (λx=>some (Next.value (.bool x))) (decide_eq_true M));refine k.op ?_;refine k.un ?_;refine k.un ?_;refine k.op ?_;refine k.done ?_;refine k.yes ?_;refine k.seq ?_;refine aM.drawn rfl λl hl=>?_
  rcases r2 hl with rfl|rfl
  ·refine aM.load (ad:=⟨2,0,none⟩) isAgg28 U Z ?_;refine k.op ?_;refine k.op ?_;refine k.done ?_;refine k.ret ?_;exact k.step rfl rfl (λw=>gP (v:=.tuple #[.slice none 0 0,vS]) rfl rfl rfl (by first|exact func18|exact func26) (by exact resultsC_tmp2 (t:=6) (u:=7) rfl _)) (hS (.inl M))
  ·refine k.op ?_;refine aM.load (ad:=⟨2,0,none⟩) isAgg28 U Z ?_;refine k.op ?_;refine k.done ?_;refine k.ret ?_;exact k.step rfl rfl (λw=>gP (v:=.tuple #[.slice none 0 0,vS]) rfl rfl rfl (by first|exact func18|exact func26) (by exact resultsC_tmp2 (t:=6) (u:=7) rfl _)) (hS (.inl M))
 refine k.op (v:=.bool false) ?_ (h:=by exact congrArg (λx=>some (Next.value (.bool x))) (decide_eq_false M));refine k.op ?_;refine k.op ?_;by_cases H:16<e
 ·refine k.op (v:=.bool true) ?_ (h:=by exact congrArg (λx=>some (Next.value (.bool x))) (decide_eq_true H));refine k.op ?_;refine k.done ?_;refine k.yes ?_;refine k.seq ?_;refine aM.drawn rfl λl hl=>?_
  rcases r2 hl with rfl|rfl
  ·refine aM.load (ad:=⟨2,0,none⟩) isAgg28 U Z ?_;refine k.op ?_;refine k.op ?_;refine k.done ?_;refine k.ret ?_;exact k.step rfl rfl (λw=>gP (v:=.tuple #[.slice none 0 0,vS]) rfl rfl rfl (by first|exact func18|exact func26) (by exact resultsC_tmp2 (t:=6) (u:=7) rfl _)) (hS (.inr H))
  ·refine k.op ?_;refine aM.load (ad:=⟨2,0,none⟩) isAgg28 U Z ?_;refine k.op ?_;refine k.done ?_;refine k.ret ?_;exact k.step rfl rfl (λw=>gP (v:=.tuple #[.slice none 0 0,vS]) rfl rfl rfl (by first|exact func18|exact func26) (by exact resultsC_tmp2 (t:=6) (u:=7) rfl _)) (hS (.inr H))
 refine k.op (v:=.bool false) ?_ (h:=by exact congrArg (λx=>some (Next.value (.bool x))) (decide_eq_false H));refine k.op ?_;refine k.done ?_;refine k.no ?_;refine k.skip ?_;refine k.seq ?_;refine k.seq ?_;refine k.region ?_;refine k.op ?_;refine k.bi (v:=goInt n) ?_ ?_ ?_;rotate_left
 ·intro w;simp only[execOp];simp[go_sem]
 ·intro w;simp only[execOp];simp[go_sem]
 by_cases I:100<n
 ·refine k.op (v:=.bool true) ?_ (h:=by exact congrArg (λx=>some (Next.value (.bool x))) (decide_eq_true bB));refine k.done ?_;refine k.yes ?_;refine k.seq ?_;refine aM.drawn rfl λl hl=>?_
  rcases r4 hl with rfl|rfl
  ·refine aM.load (ad:=⟨3,0,none⟩) isAgg28 h3 n3 ?_;refine k.op ?_;refine k.op ?_;refine k.done ?_;refine k.ret ?_;exact k.step rfl rfl (λw=>gP (v:=.tuple #[.slice none 0 0,vB]) rfl rfl rfl (by first|exact func18|exact func26) (by exact resultsC_tmp2 (t:=6) (u:=7) rfl _)) (hB bB bB I)
  ·refine k.op ?_;refine aM.load (ad:=⟨3,0,none⟩) isAgg28 h3 n3 ?_;refine k.op ?_;refine k.done ?_;refine k.ret ?_;exact k.step rfl rfl (λw=>gP (v:=.tuple #[.slice none 0 0,vB]) rfl rfl rfl (by first|exact func18|exact func26) (by exact resultsC_tmp2 (t:=6) (u:=7) rfl _)) (hB bB bB I)
 refine k.op (v:=.bool false) ?_ (h:=by exact congrArg (λx=>some (Next.value (.bool x))) (decide_eq_false bB));refine k.done ?_;refine k.no ?_;refine k.skip ?_;refine k.seq ?_;refine k.region ?_;refine k.op ?_;refine k.op ?_;refine k.op ?_;first|refine k.call 24 func37 rfl bK ?_|refine k.call 24 func47 rfl bK ?_
 have:=hP bB bB bB;simp only[iC,uH,mP,Tryz.f37,Tryz.f18,Tryz.f47,Tryz.f26,Option.getD_some,List.replicate,cons_append,nil_append] at this;exact this
end
open Go.ConcR.Gen
open Go.ConcR (WgAt stA smA rd wr mk DC0 Payload wgBlock)
noncomputable def Ci:Code:=Tryz.f60.body.getD .skip
noncomputable def zf:Code:=match Ci with | .seq _ (.block _ (.loop c))=>c|_=>.ret
def wtL(Wg:Nat)(j:Nat->Value):List Value:=[.pointer (some ⟨Wg,0,none⟩),j 1,j 2,j 3,j 4,j 5,j 6,j 7,j 8,j 9,j 10,j 11,j 12,j 13,j 14,j 15,j 16,j 17,j 18,j 19,j 20,j 21,j 22,j 23,j 24,j 25,j 26,j 27,j 28,j 29,j 30,j 31,j 32,j 33,j 34,j 35,j 36,j 37,j 38,j 39,j 40,j 41,j 42,j 43,j 44,j 45,j 46,j 47,j 48,j 49,j 50,j 51,j 52,j 53,j 54,j 55,j 56,j 57,j 58,j 59,j 60,j 61,j 62,j 63,j 64,j 65,j 66,j 67,j 68,j 69,j 70,j 71,j 72,j 73,j 74,j 75,j 76,j 77,j 78,j 79,j 80,j 81,j 82,j 83]
noncomputable def Ml(Wg:Nat)(j:Nat->Value)(cs:List Frame):Goroutine:=G ((base 60).at ⟨(wtL Wg j).toArray,[]⟩ [.code zf,.inLoop zf,.inBlock 0]) cs
noncomputable def DC(Wg:Nat)(j:Nat->Value)(cs:List Frame): {g:Goroutine // ∀T,bR prog true T->T g->T (Ml Wg j cs)}:=by
 apply Subtype.mk;intro T k h;simp only[Ml,zf,Ci,Tryz.f60,wtL,Option.getD_some];repeat (first|refine k.seq ?_|refine k.done ?_|refine k.region ?_|refine k.op ?_|refine k.un ?_|refine k.yes ?_|refine k.no ?_|refine k.skip ?_|refine k.block ?_|refine k.loop ?_|refine k.inBlock ?_|refine k.inLoop ?_|refine k.exit ?_)
 refine k.call 6 func94 rfl (by kernel_rfl) ?_;repeat (first|refine k.seq ?_|refine k.done ?_|refine k.region ?_|refine k.op ?_|refine k.un ?_|refine k.yes ?_|refine k.no ?_|refine k.skip ?_|refine k.block ?_|refine k.loop ?_|refine k.inBlock ?_|refine k.inLoop ?_|refine k.exit ?_)
 exact h
structure Kw(Ro:Nat->Prop)(Wg:Nat)(Kn:List Frame->World->(Nat->Prop)->Prop):Prop where
 keep:∀ {cs w w₁ O},Keep Ro O w w₁->Kn cs w O->Kn cs w₁ O
 ow:∀ {cs w O},Kn cs w O->¬ O Wg
 ro:¬ Ro Wg
section
variable {Ro:Nat->Prop} {Wg cn:Nat} {eR:Value} {Kn:List Frame->World->(Nat->Prop)->Prop}
def nC(Kn:List Frame->World->(Nat->Prop)->Prop)(Wg:Nat):aR:=λg w O=>∃cs j,Kn cs w O/\g=(DC Wg j cs).1
def jv(Kn:List Frame->World->(Nat->Prop)->Prop):aR:=λg w O=>∃c cs,Kn (c::cs) w O/\∃g1,(∀w,stepG prog true g w = .go g1 w)/\g1.status = .running/\∀T,bR prog true T->T (G (c.finish (.tuple #[])) cs)->T g1
theorem Pq(K:Kw Ro Wg Kn){cs:List Frame}{w:World}{O:Nat->Prop}(hk:Kn cs w O)(j:Nat->Value):RunT prog true Ro O (nC Kn Wg) w (Ml Wg j cs):=
 (DC Wg j cs).2 _ (dI true Ro O _ w) λ_ e=>.stop λ_ H=>⟨cs,j,K.keep (e.trans H) hk,rfl⟩
theorem WT(K:Kw Ro Wg Kn){cs:List Frame}{w:World}{O:Nat->Prop}(hk:Kn cs w O)(L:List Value)(hL:L=wtL Wg λi=>L.getD i undef):RunT prog true Ro O (nC Kn Wg) w (G ((base 60).at ⟨L.toArray,[]⟩ [.code zf,.inLoop zf,.inBlock 0]) cs):=by
 rw[hL];exact Pq K hk _
theorem Gr(K:Kw Ro Wg Kn){cs:List Frame}{w:World}{O:Nat->Prop}(hk:Kn cs w O):RunT prog true Ro O (vZ (gp Ro Wg cn eR) (nC Kn Wg)) w (G ((base 60).at ⟨([.pointer (some ⟨Wg,0,none⟩)]++List.replicate 83 undef:List Value).toArray,[]⟩ [.code Ci]) cs):=by
 have k:=dI (P:=prog) true Ro O (vZ (gp Ro Wg cn eR) (nC Kn Wg)) w;repeat (first|refine k.seq ?_|refine k.done ?_|refine k.region ?_|refine k.op ?_|refine k.un ?_|refine k.yes ?_|refine k.no ?_|refine k.skip ?_|refine k.block ?_|refine k.loop ?_|refine k.inBlock ?_|refine k.inLoop ?_|refine k.exit ?_)
 refine λJ H=>.stop λe I=>⟨_,stepG_mark0 .disable (by simp) rfl rfl (by decide) rfl eH.f_disable (x_disable_n lk) (x_disable_b lk) (x_disable_x lk) (x_disable_f lk),rfl,?_⟩
 have M:=K.keep (H.trans I) hk;walk_nrm;have k:=dI (P:=prog) true Ro O (nC Kn Wg) e;suffices h:RunT prog true Ro O (nC Kn Wg) e _ from h e (.refl ..)
 refine k.done ?_;refine k.block ?_;refine k.loop ?_;exact Pq K M λi=>if i=7 then .tuple #[] else undef
theorem aag(K:Kw Ro Wg Kn){c:Frame}{cs:List Frame}{w:World}{O:Nat->Prop}(j:Nat->Value)(U:Kn (c::cs) w O)(hw:WgAt 115 Wg w 0 0):
  ∃g',stepG prog true (DC Wg j (c::cs)).1 w = .go g' w #[rd (stA Wg)]/\g'.status = .running/\Runs prog true Ro (Js (gp Ro Wg cn eR) (jv Kn)) g' w O:=by
 simp only[DC];refine⟨_,stepG_load_atomic rfl rfl (by decide) rfl eH.f_loadU64 (x_loadU64_n lk) (x_loadU64_b lk) (x_loadU64_x lk) .u64 (x_loadU64_f lk) rfl hw.cellSt,rfl,?_⟩;clear hw;walk_nrm;have k:=dI (P:=prog) true Ro O (Js (gp Ro Wg cn eR) (jv Kn)) w;suffices h:RunT prog true Ro O (Js (gp Ro Wg cn eR) (jv Kn)) w _ from h w (.refl ..)
 repeat (first|refine k.seq ?_|refine k.done ?_|refine k.region ?_|refine k.op ?_|refine k.un ?_|refine k.yes ?_|refine k.no ?_|refine k.skip ?_|refine k.block ?_|refine k.loop ?_|refine k.inBlock ?_|refine k.inLoop ?_|refine k.exit ?_)
 refine k.ret ?_;refine k.leave1 func94 ?_;repeat (first|refine k.seq ?_|refine k.done ?_|refine k.region ?_|refine k.op ?_|refine k.un ?_|refine k.yes ?_|refine k.no ?_|refine k.skip ?_|refine k.block ?_|refine k.loop ?_|refine k.inBlock ?_|refine k.inLoop ?_|refine k.exit ?_)
 refine λM e=>.stop λI H=>⟨_,stepG_mark0 .enable eO rfl rfl bM rfl eH.f_enable (x_enable_n lk) (x_enable_b lk) (x_enable_x lk) (x_enable_f lk),rfl,?_⟩
 replace U:=K.keep (e.trans H) U;clear e H;walk_nrm;have k:=dI (P:=prog) true Ro O (O6 (gp Ro Wg cn eR) (jv Kn)) I;suffices h:RunT prog true Ro O (O6 (gp Ro Wg cn eR) (jv Kn)) I _ from h I (.refl ..)
 repeat (first|refine k.seq ?_|refine k.done ?_|refine k.region ?_|refine k.op ?_|refine k.un ?_|refine k.yes ?_|refine k.no ?_|refine k.skip ?_|refine k.block ?_|refine k.loop ?_|refine k.inBlock ?_|refine k.inLoop ?_|refine k.exit ?_)
 refine λM e=>.stop λJ H st sm Ϗ=>?_
 replace U:=K.keep (e.trans H) U;clear e H;refine⟨_,wm rfl rfl bM rfl rfl underlying160 underlying125 eH.room_tWg (ConcR.WgAt.cellSt Ϗ),rfl,?_⟩;clear Ϗ;walk_nrm;have k:=dI (P:=prog) true Ro O (BS (gp Ro Wg cn eR) (jv Kn)) J;suffices h:RunT prog true Ro O (BS (gp Ro Wg cn eR) (jv Kn)) J _ from h J (.refl ..)
 repeat (first|refine k.seq ?_|refine k.done ?_|refine k.region ?_|refine k.op ?_|refine k.un ?_|refine k.yes ?_|refine k.no ?_|refine k.skip ?_|refine k.block ?_|refine k.loop ?_|refine k.inBlock ?_|refine k.inLoop ?_|refine k.exit ?_)
 refine λM e=>.stop λw₄ H=>⟨_,stepG_markAt .acquire eO rfl rfl bM rfl eH.f_acquire (x_acquire_n lk) (x_acquire_b lk) (x_acquire_x lk) (x_acquire_f lk) (by simp[Act.eval,stA,gp,Gp.stA]),rfl,λw₅ Z=>⟨_,_,K.keep ((e.trans H).trans Z) U,?_⟩⟩
 refine⟨_,λw=>stepG_region_end,rfl,λT k hT=>?_⟩;walk_nrm;repeat (first|refine k.seq ?_|refine k.done ?_|refine k.region ?_|refine k.op ?_|refine k.un ?_|refine k.yes ?_|refine k.no ?_|refine k.skip ?_|refine k.block ?_|refine k.loop ?_|refine k.inBlock ?_|refine k.inLoop ?_|refine k.exit ?_)
 refine k.ret ?_;exact k.step rfl rfl (λw=>gP rfl rfl rfl func60 (resultsC_none rfl _)) hT
abbrev xQ(Wg:Nat):Array Event:=#[ConcR.mk (.write ⟨Wg,1,none⟩)]
theorem aah(K:Kw Ro Wg Kn){c:Frame}{cs:List Frame}{w:World}{O:Nat->Prop}(j:Nat->Value)(U:Kn (c::cs) w O)(v:Nat)(hv:v<2147483648)(h0:v≠0)(hw:WgAt 115 Wg w ((v:Int)*ConcR.KK) 0):
  ∃g',stepG prog true (DC Wg j (c::cs)).1 w = .go g' w #[rd (stA Wg)]/\g'.status = .running/\Runs prog true Ro (Uh (gp Ro Wg cn eR) (jv Kn) (xQ Wg) (nC Kn Wg) v) g' w O:=by
 simp only[DC];obtain⟨S,hS⟩:=aJ ((v:Int)*ConcR.KK:Int);have Ų:S=(v:Int)*4294967296+((0:Nat):Int):=by rw[hS];simp[ConcR.KK]
 have a1:Int.fdiv S (2 ^ min (Int.toNat 32) IntKind.u64.bits)=(v:Int):=by
  rw[show (2:Int) ^ min (Int.toNat 32) IntKind.u64.bits=4294967296 from by decide,Int.fdiv_eq_ediv_of_nonneg _ bM,Ų];omega
 have b1:IntKind.u64.wrap ↑(BitVec.ofInt IntKind.u64.bits S &&& BitVec.ofInt IntKind.u64.bits 2147483648).toNat=0:=by
  have:=ConcN.st_flag v 0 bB bB;rw[<-Ų] at this;exact this
 have b2:IntKind.u64.wrap ↑(BitVec.ofInt IntKind.u64.bits S &&& BitVec.ofInt IntKind.u64.bits 2147483647).toNat=0:=by
  have:=ConcN.st_waiters v 0 bB bB;rw[<-Ų] at this;exact this
 have c1:IntKind.i32.wrap (v:Int)=v:=by rw[IntKind.wrap_i32];omega
 have eS1:IntKind.u64.wrap (S+1)=S+1:=by rw[Ų,IntKind.wrap_u64];omega
 rw[<-hS] at hw;refine⟨_,stepG_load_atomic rfl rfl (by decide) rfl eH.f_loadU64 (x_loadU64_n lk) (x_loadU64_b lk) (x_loadU64_x lk) .u64 (x_loadU64_f lk) rfl hw.cellSt,rfl,?_⟩;clear hw;walk_nrm;have k:=dI (P:=prog) true Ro O (Uh (gp Ro Wg cn eR) (jv Kn) (xQ Wg) (nC Kn Wg) v) w;suffices h:RunT prog true Ro O (Uh (gp Ro Wg cn eR) (jv Kn) (xQ Wg) (nC Kn Wg) v) w _ from h w (.refl ..)
 refine k.op ?_;refine k.done ?_;refine k.ret ?_;refine k.leave1 func94 ?_;refine k.op ?_;refine k.done ?_;refine k.seq ?_;refine k.region ?_;refine k.op ?_;refine k.op (v:=.int .u64 (v:Int)) ?_ (h:=by exact congrArg (λx=>some (Next.value (.int .u64 x))) a1);refine k.op (v:=.int .i32 (v:Int)) ?_ (h:=by exact congrArg (λx=>some (Next.value (.int .i32 x))) c1);refine k.op ?_;refine k.done ?_;refine k.seq ?_;refine k.region ?_;refine k.op ?_;refine k.op (v:=.int .u64 0) ?_ (h:=by exact congrArg (λx=>some (Next.value (.int .u64 x))) b2);refine k.op ?_;refine k.op ?_;refine k.done ?_;refine k.seq ?_;refine k.seq ?_;refine k.region ?_;refine k.op ?_;refine k.op (v:=.bool false) ?_ (h:=by exact congrArg (λx=>some (Next.value (.bool x))) (by simpa using h0));refine k.done ?_;refine k.no ?_;refine k.skip ?_;try refine k.seq ?_
 try refine k.seq ?_
 refine k.region ?_;refine k.op ?_;refine k.op ?_;refine k.op ?_;refine k.op ?_;refine k.op ?_;refine k.op (v:=.int .u64 (S+1)) ?_ (h:=by exact congrArg (λx=>some (Next.value (.int .u64 x))) eS1);refine k.call 10 func100 rfl bK ?_;repeat (first|refine k.seq ?_|refine k.done ?_|refine k.region ?_|refine k.op ?_|refine k.un ?_|refine k.yes ?_|refine k.no ?_|refine k.skip ?_|refine k.block ?_|refine k.loop ?_|refine k.inBlock ?_|refine k.inLoop ?_|refine k.exit ?_)
 refine λZ H=>.stop λJ I v' hv' ϯ=>⟨λe=>?_,λe=>?_⟩
 ·subst e;replace U:=K.keep (H.trans I) U;clear H I;replace ϯ:WgAt 115 Wg J S 0:=hS ▸ ϯ
  rw[<-hS];refine⟨_,stepG_cas_hit rfl rfl bM rfl eH.f_casU64 (x_casU64_n lk) (x_casU64_b lk) (x_casU64_x lk) .u64 (x_casU64_f lk) rfl rfl rfl ϯ.cellSt (ϯ.thaw 0),rfl,?_⟩;obtain⟨M,î⟩:=aJ (J.setCell (stA Wg) (.int .u64 (S+1)));have ö:Keep Ro O J M:=by
   obtain⟨_,h2,h3⟩:=BU (p:=⟨prog,Ro,115,Wg,cn,undef⟩) ϯ (S+1);rw[î];exact⟨Nat.le_of_eq h2.symm,λb hb=>h3 b λe=>by subst e;exact hb.elim K.ro (K.ow U),rfl,rfl⟩
  replace U:=K.keep ö U;show Runs _ _ _ _ _ (J.setCell (stA Wg) (.int .u64 (S+1))) _;rw[<-î];clear î ö ϯ
  walk_nrm;have k:=dI (P:=prog) true Ro O (Yx (gp Ro Wg cn eR) (jv Kn) (xQ Wg)) M;suffices h:RunT prog true Ro O (Yx (gp Ro Wg cn eR) (jv Kn) (xQ Wg)) M _ from h M (.refl ..)
  repeat (first|refine k.seq ?_|refine k.done ?_|refine k.region ?_|refine k.op ?_|refine k.un ?_|refine k.yes ?_|refine k.no ?_|refine k.skip ?_|refine k.block ?_|refine k.loop ?_|refine k.inBlock ?_|refine k.inLoop ?_|refine k.exit ?_)
  refine k.ret ?_;refine k.leave1 func100 ?_;repeat (first|refine k.seq ?_|refine k.done ?_|refine k.region ?_|refine k.op ?_|refine k.un ?_|refine k.yes ?_|refine k.no ?_|refine k.skip ?_|refine k.block ?_|refine k.loop ?_|refine k.inBlock ?_|refine k.inLoop ?_|refine k.exit ?_)
  refine λZ H=>.stop λw₄ I st sm Ϗ=>?_
  replace U:=K.keep (H.trans I) U;clear H I;refine⟨_,wm rfl rfl bM rfl rfl underlying166 underlying125 eH.room_tU32 (ConcR.WgAt.cellSm Ϗ),rfl,?_⟩;clear Ϗ;walk_nrm;have k:=dI (P:=prog) true Ro O (Yw (gp Ro Wg cn eR) (jv Kn) (xQ Wg)) w₄;suffices h:RunT prog true Ro O (Yw (gp Ro Wg cn eR) (jv Kn) (xQ Wg)) w₄ _ from h w₄ (.refl ..)
  repeat (first|refine k.seq ?_|refine k.done ?_|refine k.region ?_|refine k.op ?_|refine k.un ?_|refine k.yes ?_|refine k.no ?_|refine k.skip ?_|refine k.block ?_|refine k.loop ?_|refine k.inBlock ?_|refine k.inLoop ?_|refine k.exit ?_)
  refine λZ H=>.stop λw₅ I=>⟨_,stepG_markAt .write eO rfl rfl bM rfl eH.f_raceWrite (x_raceWrite_n lk) (x_raceWrite_b lk) (x_raceWrite_x lk) (x_raceWrite_f lk) (ad:=⟨Wg,1,none⟩) (by simp[Act.eval];rfl),rfl,?_⟩
  replace U:=K.keep (H.trans I) U;clear H I;walk_nrm;have k:=dI (P:=prog) true Ro O (LK (gp Ro Wg cn eR) (jv Kn)) w₅;suffices h:RunT prog true Ro O (LK (gp Ro Wg cn eR) (jv Kn)) w₅ _ from h w₅ (.refl ..)
  repeat (first|refine k.seq ?_|refine k.done ?_|refine k.yes ?_|refine k.no ?_|refine k.skip ?_|refine k.block ?_|refine k.loop ?_|refine k.inBlock ?_|refine k.inLoop ?_|refine k.exit ?_)
  refine k.region ?_;refine k.op ?_;repeat (first|refine k.seq ?_|refine k.done ?_|refine k.yes ?_|refine k.no ?_|refine k.skip ?_|refine k.block ?_|refine k.loop ?_|refine k.inBlock ?_|refine k.inLoop ?_|refine k.exit ?_)
  refine k.region ?_;refine k.op ?_;refine k.op (v:=.int .u64 0) ?_ (h:=by exact congrArg (λx=>some (Next.value (.int .u64 x))) b1);repeat (first|refine k.seq ?_|refine k.done ?_|refine k.region ?_|refine k.op ?_|refine k.un ?_|refine k.yes ?_|refine k.no ?_|refine k.skip ?_|refine k.block ?_|refine k.loop ?_|refine k.inBlock ?_|refine k.inLoop ?_|refine k.exit ?_)
  refine λZ H=>.stop λw₆ I=>⟨rfl,rfl,λst Ϗ=>stepG_semacquire_wait rfl rfl rfl eH.f_semacquire (x_semacquire_n lk) (x_semacquire_b lk) (x_semacquire_x lk) (x_semacquire_f lk) (by simp[Act.eval];rfl) (ConcR.WgAt.cellSm Ϗ),λϏ=>?_⟩
  replace U:=K.keep (H.trans I) U;clear H I;replace Ϗ:WgAt 115 Wg w₆ 0 1:=Ϗ;refine⟨_,(stepG_semacquire rfl rfl bM rfl eH.f_semacquire (x_semacquire_n lk) (x_semacquire_b lk) (x_semacquire_x lk) (x_semacquire_f lk) (by simp[Act.eval];rfl) (ConcR.WgAt.cellSm Ϗ) bM (Ϗ.thaw 1)).trans (by rfl),rfl,?_⟩;obtain⟨w₇,Ŭ⟩:=aJ (w₆.setCell (smA Wg) (.int .u32 0));have hk7:Keep Ro O w₆ w₇:=by
   obtain⟨_,h2,h3⟩:=LM (p:=⟨prog,Ro,115,Wg,cn,undef⟩) Ϗ 0;rw[Ŭ];exact⟨Nat.le_of_eq h2.symm,λb hb=>h3 b λe=>by subst e;exact hb.elim K.ro (K.ow U),rfl,rfl⟩
  replace U:=K.keep hk7 U;show Runs _ _ _ _ _ (w₆.setCell (smA Wg) (.int .u32 0)) _;rw[<-Ŭ];clear Ŭ hk7 Ϗ;walk_nrm;have k:=dI (P:=prog) true Ro O (Yv (gp Ro Wg cn eR) (jv Kn)) w₇;suffices h:RunT prog true Ro O (Yv (gp Ro Wg cn eR) (jv Kn)) w₇ _ from h w₇ (.refl ..)
  repeat (first|refine k.seq ?_|refine k.done ?_|refine k.region ?_|refine k.op ?_|refine k.un ?_|refine k.yes ?_|refine k.no ?_|refine k.skip ?_|refine k.block ?_|refine k.loop ?_|refine k.inBlock ?_|refine k.inLoop ?_|refine k.exit ?_)
  refine k.call 6 func94 rfl bK ?_;repeat (first|refine k.seq ?_|refine k.done ?_|refine k.region ?_|refine k.op ?_|refine k.un ?_|refine k.yes ?_|refine k.no ?_|refine k.skip ?_|refine k.block ?_|refine k.loop ?_|refine k.inBlock ?_|refine k.inLoop ?_|refine k.exit ?_)
  refine λZ H=>.stop λw I Ϗ=>?_
  replace U:=K.keep (H.trans I) U;clear H I;replace Ϗ:WgAt 115 Wg w 0 0:=Ϗ;refine⟨_,stepG_load_atomic rfl rfl bM rfl eH.f_loadU64 (x_loadU64_n lk) (x_loadU64_b lk) (x_loadU64_x lk) .u64 (x_loadU64_f lk) rfl Ϗ.cellSt,rfl,?_⟩;clear Ϗ;walk_nrm;have k:=dI (P:=prog) true Ro O (Js (gp Ro Wg cn eR) (jv Kn)) w;suffices h:RunT prog true Ro O (Js (gp Ro Wg cn eR) (jv Kn)) w _ from h w (.refl ..)
  repeat (first|refine k.seq ?_|refine k.done ?_|refine k.region ?_|refine k.op ?_|refine k.un ?_|refine k.yes ?_|refine k.no ?_|refine k.skip ?_|refine k.block ?_|refine k.loop ?_|refine k.inBlock ?_|refine k.inLoop ?_|refine k.exit ?_)
  refine k.ret ?_;refine k.leave1 func94 ?_;repeat (first|refine k.seq ?_|refine k.done ?_|refine k.region ?_|refine k.op ?_|refine k.un ?_|refine k.yes ?_|refine k.no ?_|refine k.skip ?_|refine k.block ?_|refine k.loop ?_|refine k.inBlock ?_|refine k.inLoop ?_|refine k.exit ?_)
  refine λZ H=>.stop λJ I=>⟨_,stepG_mark0 .enable eO rfl rfl bM rfl eH.f_enable (x_enable_n lk) (x_enable_b lk) (x_enable_x lk) (x_enable_f lk),rfl,?_⟩
  replace U:=K.keep (H.trans I) U;clear H I;walk_nrm;have k:=dI (P:=prog) true Ro O (O6 (gp Ro Wg cn eR) (jv Kn)) J;suffices h:RunT prog true Ro O (O6 (gp Ro Wg cn eR) (jv Kn)) J _ from h J (.refl ..)
  repeat (first|refine k.seq ?_|refine k.done ?_|refine k.region ?_|refine k.op ?_|refine k.un ?_|refine k.yes ?_|refine k.no ?_|refine k.skip ?_|refine k.block ?_|refine k.loop ?_|refine k.inBlock ?_|refine k.inLoop ?_|refine k.exit ?_)
  refine λZ H=>.stop λM I st sm Ϗ=>?_
  replace U:=K.keep (H.trans I) U;clear H I;refine⟨_,wm rfl rfl bM rfl rfl underlying160 underlying125 eH.room_tWg (ConcR.WgAt.cellSt Ϗ),rfl,?_⟩;clear Ϗ;walk_nrm;have k:=dI (P:=prog) true Ro O (BS (gp Ro Wg cn eR) (jv Kn)) M;suffices h:RunT prog true Ro O (BS (gp Ro Wg cn eR) (jv Kn)) M _ from h M (.refl ..)
  repeat (first|refine k.seq ?_|refine k.done ?_|refine k.region ?_|refine k.op ?_|refine k.un ?_|refine k.yes ?_|refine k.no ?_|refine k.skip ?_|refine k.block ?_|refine k.loop ?_|refine k.inBlock ?_|refine k.inLoop ?_|refine k.exit ?_)
  refine λZ H=>.stop λw₄ I=>⟨_,stepG_markAt .acquire eO rfl rfl bM rfl eH.f_acquire (x_acquire_n lk) (x_acquire_b lk) (x_acquire_x lk) (x_acquire_f lk) (by simp[Act.eval,stA,gp,Gp.stA]),rfl,λw₅ h₃=>⟨_,_,K.keep ((H.trans I).trans h₃) U,?_⟩⟩
  refine⟨_,λw=>stepG_region_end,rfl,λT k hT=>?_⟩;walk_nrm;repeat (first|refine k.seq ?_|refine k.done ?_|refine k.region ?_|refine k.op ?_|refine k.un ?_|refine k.yes ?_|refine k.no ?_|refine k.skip ?_|refine k.block ?_|refine k.loop ?_|refine k.inBlock ?_|refine k.inLoop ?_|refine k.exit ?_)
  refine k.ret ?_;exact k.step rfl rfl (λw=>gP rfl rfl rfl func60 (resultsC_none rfl _)) hT
 ·replace U:=K.keep (H.trans I) U;clear H I;replace ϯ:WgAt 115 Wg J ((v':Int)*ConcR.KK) 0:=ϯ
  refine⟨_,stepG_cas_miss rfl rfl bM rfl eH.f_casU64 (x_casU64_n lk) (x_casU64_b lk) (x_casU64_x lk) .u64 (x_casU64_f lk) rfl rfl rfl ϯ.cellSt (ϯ.thaw 0) (by rw[Ų];simp only[ConcR.KK];omega),rfl,?_⟩;clear ϯ
  walk_nrm;have k:=dI (P:=prog) true Ro O (nC Kn Wg) J;suffices h:RunT prog true Ro O (nC Kn Wg) J _ from h J (.refl ..)
  refine k.op ?_;refine k.done ?_;refine k.ret ?_;refine k.leave1 func100 ?_;repeat (first|refine k.done ?_|refine k.no ?_|refine k.skip ?_|refine k.inBlock ?_)
  refine k.inLoop ?_;exact WT K U _ rfl
theorem YH(K:Kw Ro Wg Kn)(hc:∀ {cs w O},Kn cs w O->cs ≠ []):Q5 (gp Ro Wg cn eR) (jv Kn) (xQ Wg) (nC Kn Wg):=by
 rintro g w O ⟨cs,j,U,rfl⟩ v Z e
 replace e:WgAt 115 Wg w ((v:Int)*ConcR.KK) 0:=e
 obtain⟨c,cs,rfl⟩:∃c H,cs=c::H:=by
  cases cs with
  | nil=>exact absurd rfl (hc U)
  | cons c cs=>exact⟨c,cs,rfl⟩
 by_cases h0:v=0
 ·subst h0;obtain⟨g',I,J,M⟩:=aag (cn:=cn) (eR:=eR) K j U (by simpa using e);exact⟨g',I,J,λ_=>M,λh=>absurd rfl h⟩
 ·obtain⟨g',I,J,M⟩:=aah (cn:=cn) (eR:=eR) K j U v Z h0 e
  exact⟨g',I,J,λh=>absurd h h0,λ_=>M⟩
end
end Go.Proofs.YtnonoiafongllaaGreatDoor
namespace Px
open Go Go.Conc
def nF:Fs:={ fn:=λ_=>False,G:=0,bt:=0 }
theorem Pv.up{F:Fs}{X:Nat->Prop}{v:Value}(h:Pv nF X v):Pv F X v:=by
 induction h with
 | bool b=>exact .bool b
 | int k n=>exact .int k n
 | string s=>exact .string s
 | dB=>exact .dB
 | ptr h=>exact .ptr h
 | dK n c=>exact .dK n c
 | sl n c h=>exact .sl n c h
 | sl0 a=>exact .sl0 a
 | func hf=>exact hf.elim
 | nilFunc=>exact .nilFunc
 | nilIface=>exact .nilIface
 | iface t _ ih=>exact .iface t ih
 | agg _ ih=>exact .agg ih
section
variable {F:Fs} {k:Ok} {P:Program} {Sw X Y D D':Nat->Prop} {W W' W1 W2:World} {hL:Array Obj} {B:Bl}
structure Kept(F:Fs)(X D:Nat->Prop)(W W':World):Prop where
 size:W.heap.size<=W'.heap.size
 cell:∀p v,X p.block->Pv F X v->W.cell? p=some v->W'.cell? p=some v
 blk:∀b c t z,X b->W.heap[b]? = some (.cells c t z)->∃c' z',W'.heap[b]? = some (.cells c' t z')
 dead:∀b,D b->W'.heap[b]? = W.heap[b]?
 env:W'.os=W.os/\W'.output=W.output
theorem Kept.refl:Kept F X D W W:=⟨le_refl _,λ_ _ _ _ h=>h,λ_ c _ z _ h=>⟨c,z,h⟩,λ_ _=>rfl,rfl,rfl⟩
structure uf(W:World)(Sw aI:Nat->Prop):Prop where
 new:∀b,aI b->Sw b\/W.heap.size<=b
 old:∀b,Sw b->aI b
theorem uf.refl:uf W Sw Sw:=⟨λ_ h=>.inl h,λ_ h=>h⟩
theorem Kept.trans(e:Kept F X D W W1)(H:Kept F Y D' W1 W2)(J:∀b,X b->Y b)(Z:∀b,D b->D' b):Kept F X D W W2 where
 size:=le_trans e.size H.size
 cell:=λp v M U hc=>H.cell p v (J _ M) (U.mono J) (e.cell p v M U hc)
 blk:=λb c t z I h=>by
  obtain⟨c1,z1,h⟩:=e.blk b c t z I h;exact H.blk b c1 t z1 (J _ I) h
 dead:=λb I=>(H.dead b (Z b I)).trans (e.dead b I)
 env:=⟨H.env.1.trans e.env.1,H.env.2.trans e.env.2⟩
theorem Kept.same(M:W.heap.size<=W'.heap.size)(h:∀b,X b->W'.heap[b]? = W.heap[b]?)(I:∀b,D b->W'.heap[b]? = W.heap[b]?)(he:W'.os=W.os/\W'.output=W.output):Kept F X D W W' where
 size:=M
 cell:=λp v J _ hc=>by simpa only [World.cell?,h _ J] using hc
 blk:=λb c t z H e=>⟨c,z,(h b H).trans e⟩
 dead:=I
 env:=he
theorem Kept.all(K:Kept nF (λb=>X b/\¬ False) D W W'):Kept nF X D W W':=⟨K.size,λp v I J=>K.cell p v ⟨I,id⟩ (J.mono λ_ h=>⟨h,id⟩),λb c t e H=>K.blk b c t e ⟨H,id⟩,K.dead,K.env⟩
def Lw(z:Nat)(Sw:Nat->Prop):Nat->Prop:=λb=>b<z\/Sw b
theorem After.keeps(M:Mn F k Sw X W)(A:After F P k Sw X W hL B W')(H:∀b,b<W.heap.size->hL[b]? = (lQ F X W.heap)[b]?)(hd:∀b,D b->W'.heap[b]? = W.heap[b]?):Kept F X D W W' where
 size:=A.fr.size
 cell:=λp v hp hv hc=>A.kept M H hp hv hc
 blk:=λb c t z I e=>by
  by_cases U:F.cut b
  ·exact⟨_,_,(A.Ri M U).trans e⟩
  obtain⟨o,o',Z,h2,J⟩:=A.hr.obj _ _ (A.ext _ _ ⟨rfl,I⟩);replace J:=J.resolve_right λh=>U h.1
  rw[H b (M.lt I),Dy I U e] at Z;cases Z;cases J with
  | cells t hv hz=>exact⟨_,_,h2⟩
 dead:=hd
 env:=⟨A.fr.os,A.fr.output⟩
inductive Vd:Value->Prop
 | bool (b:Bool):Vd (.bool b)
 | int (k:IntKind) (n:Int):Vd (.int k n)
 | string (s:ByteArray):Vd (.string s)
 | ptr (a:Option Addr):Vd (.pointer a)
 | sl (a:Option Addr) (n c:Nat):Vd (.slice a n c)
 | nilIface:Vd .nilIface
 | iface {v:Value} (t:TypeId):Vd v->Vd (.iface t v)
inductive Hb:Value->Nat->Prop
 | ptr (a:Addr):Hb (.pointer (some a)) a.block
 | sl (a:Addr) (n c:Nat) (h:n≠0\/c≠0):Hb (.slice (some a) n c) a.block
 | iface {v:Value} {b:Nat} (t:TypeId):Hb v b->Hb (.iface t v) b
theorem After.addr(A:After F P k Sw X W hL B W'){a b:Addr}(h:AR F B a b):b=a/\B a.block a.block:=by
 have e:=(A.hr.yT A.kF).2 _ _ h.block;have H:=h.block;rw[<-e] at H;refine⟨?_,H⟩;obtain⟨I,J,M⟩:=a;obtain⟨U,Z,b3⟩:=b;have:=h.off;have:=h.spot;simp_all
theorem After.vd(A:After F P k Sw X W hL B W'){v I:Value}(J:Vd v)(h:VR F B v I):I=v/\∀b,Hb v b->B b b:=by
 induction J generalizing I with
 | bool=>cases h;exact⟨rfl,λb e=>by cases e⟩
 | int=>cases h;exact⟨rfl,λb e=>by cases e⟩
 | string=>cases h;exact⟨rfl,λb e=>by cases e⟩
 | ptr=>cases h with
  | dB=>exact⟨rfl,λb e=>by cases e⟩
  | ptr ha=>
   obtain⟨rfl,H⟩:=A.addr ha;exact⟨rfl,λb e=>by cases e;exact H⟩
 | sl=>cases h with
  | dK=>exact⟨rfl,λb e=>by cases e⟩
  | sl0=>exact⟨rfl,λb e=>by cases e with|sl _ _ _ h=>rcases h with h|h<;>exact absurd rfl h⟩
  | sl _ _ ha=>
   obtain⟨rfl,H⟩:=A.addr ha;exact⟨rfl,λb e=>by cases e;exact H⟩
 | nilIface=>cases h;exact⟨rfl,λb e=>by cases e⟩
 | iface t _ ih=>cases h with
  | iface _ h=>
   obtain⟨rfl,H⟩:=ih h;exact⟨rfl,λb e=>by cases e with|iface _ e=>exact H b e⟩
theorem After.at(A:After F P k Sw X W hL B W'){p:Addr}{v:Value}(J:B p.block p.block)(hc:iy hL p=some v)(M:Vd v):W'.cell? p=some v/\∀b,Hb v b->B b b:=by
 obtain⟨U,e,H⟩:=A.cell J hc;obtain⟨rfl,I⟩:=A.vd M H;exact⟨e,I⟩
theorem After.rd(A:After F P k Sw X W hL B W'){b:Nat}(H:B b b)(hc:∃I t z,hL[b]? = some (.cells I t z)):b<W'.heap.size/\¬ Sw b/\∃I t z,W'.heap[b]? = some (.cells I t z):=by
 obtain⟨o,Z,U,M,J⟩:=A.hr.obj _ _ H;obtain⟨I,t,z,e⟩:=hc;rw[U] at e;cases e;rcases J with J|⟨_,ys,t,_,rfl,_⟩;rotate_left
 ·exact⟨(A.own _ _ H).1,(A.own _ _ H).2,_,_,_,M⟩
 cases J with
 | cells t hv hz=>exact⟨(A.own _ _ H).1,(A.own _ _ H).2,_,_,_,M⟩
theorem After.rest(M:Mn F k Sw X W)(A:After F P k Sw X W hL B W')(Ċ:F.cm=true)(J:∀b,b<W.heap.size->hL[b]? = (lQ F X W.heap)[b]?){b:Nat}(hb:b<W.heap.size)(h:X b->¬ F.cut b->∃H t z,W.heap[b]? = some (.cells H t z)/\∀(i:Nat) (v:Value),H[i]? = some v->Pv F X v):W'.heap[b]? = W.heap[b]?:=by
 by_cases Z:F.cut b
 ·exact A.Ri M Z
 by_cases I:X b
 ·obtain⟨H,t,z,e,hv⟩:=h I Z;obtain⟨o,o',h1,h2,ho⟩:=A.hr.obj _ _ (A.ext _ _ ⟨rfl,I⟩);replace ho:=ho.resolve_right λh=>Z h.1
  rw[J b (M.lt I),Dy I Z e] at h1;cases h1;cases ho with
  | @cells xs' ys t z z' â hz=>
   have τ:z=z':=by
    rcases hz with h|⟨h,_⟩
    ·exact h
    ·rw[Ċ] at h;cases h
   subst τ;rw[h2,e];have:ys=H:=by
    apply Array.ext_getElem?;intro i;rcases â.get? i with⟨e1,e2⟩|⟨u,u',e1,e2,hr⟩
    ·rw[e2];rw[Array.getElem?_map] at e1;cases U:H[i]? with
     | none=>rfl
     | some v=>rw[U] at e1;cases e1
    ·rw[Array.getElem?_map] at e1;cases U:H[i]? with
     | none=>rw[U] at e1;cases e1
     | some v=>
      rw[U] at e1;have hp:=hv i v U;have e3:jn F X v=u:=Option.some.inj e1;rw[eD hp.self] at e3;subst e3;rw[e2,A.val hp hr]
   rw[this]
 ·exact A.fr.old b hb I
theorem qx(A:After F P k Sw X W hL B W'){I H:Array Value}(h:aX F B I H){i:Nat}{v:Value}(e:I[i]? = some v)(M:Vd v):H[i]? = some v/\∀b,Hb v b->B b b:=by
 rcases h.get? i with⟨e1,_⟩|⟨x,x',e1,e2,hx⟩
 ·rw[e] at e1;cases e1
 ·rw[e] at e1;cases e1;obtain⟨rfl,J⟩:=A.vd M hx;exact⟨e2,J⟩
theorem vD(A:After F P k Sw X W hL B W'){I H:Array Value}(h:aX F B I H){i:Nat}{v:Value}(e:I[i]? = some v)(J:Pv F X v):H[i]? = some v:=by
 rcases h.get? i with⟨e1,_⟩|⟨x,x',e1,e2,hx⟩
 ·rw[e] at e1;cases e1
 ·rw[e] at e1;cases e1;rw[e2,A.val J hx]
theorem After.box(A:After F P k Sw X W hL B W'){b:Nat}(hB:B b b){k1 k2:IntKind}{x y:Int}{t:TypeId}(e:hL[b]? = some (.cells #[.int k1 x,.int k2 y] t (0,0))):W'.heap[b]? = some (.cells #[.int k1 x,.int k2 y] t (0,0)):=by
 obtain⟨o,o',I,h2,J⟩:=A.hr.obj _ _ hB;rw[e] at I;cases I;rcases J with J|⟨_,H,_,he,_⟩;rotate_left
 ·simp at he
 cases J with
 | @cells _ H t z z' hv hz=>
  have M:z'=(0,0):=by
   rcases hz with h|⟨_,h⟩
   ·exact h.symm
   ·cases h
  subst M;rw[h2];have hs:H.size=2:=hv.1.symm;have U:=hv.2 0 eO bB;have Z:=hv.2 1 eO bB;have:H=#[.int k1 x,.int k2 y]:=by
   apply Array.ext
   ·simp[hs]
   ·intro i I h3;match i,h3 with
    | 0,_=>
     generalize H[0]=u at U ⊢;cases U;rfl
    | 1,_=>
     generalize H[1]=u at Z ⊢;cases Z;rfl
  rw[this]
theorem yJ{p:Addr}{v:Value}(h:iy hL p=some v):∃e t z,hL[p.block]? = some (.cells e t z):=by
 unfold iy at h;split at h
 ·exact⟨_,_,_,by assumption⟩
 ·cases h
end
section
variable {P:Program} {m:Bool} {T:Goroutine->Prop} {b:Frame} {a:Act} {k:List Item} {cs:List Frame} {ops:Array Oper} {i:Nat} {rest:List Nat} {o:Oper} {f:FuncId} {fn:Func}
theorem bR.enter(c:bR P m T){U:Array Operand}{I:Array TypeId}{cd:Code}{l:List Value}(J:P.funcs[f]? = some fn)(hb:fn.body=some cd)(M:(fn.name == "runtime.NumGoroutine")=false)(hn:T (G (Frame.enter P f l.toArray .normal) (b.at a (.inRegion ops (i::rest)::k)::cs)))
  (ho:ops[i]? = some o:=by (simp only[List.getElem?_toArray,List.getElem?_cons_zero,List.getElem?_cons_succ];rfl)) (hw:Region.wanted o (yielded ops a.tmps)=true:=by rfl) (hk:b.kind ≠ .early:=by decide) (Z:o.op = .call { callee:=.value (.func f),args:=U,argTypes:=I }:=by rfl)
  (hl:U.map a.eval=l.toArray:=by (simp only[List.map_toArray,List.map_cons,List.map_nil,Go.Act.eval,Array.getD_eq_getD_getElem?,List.getElem?_toArray,List.getElem?_cons_zero,List.getElem?_cons_succ,Option.getD_some];rfl)) :
  T (G (b.at a (.inRegion ops (i::rest)::k)) cs):=by
 have H:fn.body.isNone=false:=by rw[hb];rfl
 have e:∀w,stepG P m (G (b.at a (.inRegion ops (i::rest)::k)) cs) w = .go (G (Frame.enter P f l.toArray .normal) (b.at a (.inRegion ops (i::rest)::k)::cs)) w:=λw=>by
  rw[stepG_enter ho hw hk (run_call_body Z J M H),hl];unfold listed;rw[events_call_body Z J M H,seen_none]
 exact c.step rfl rfl e hn
end
end Px
namespace Px
open Go Go.Conc
section
variable {F:Fs} {P:Program} {k:Ok} {N:Nat} {Q:Machine->Outcome->World->Trace->Prop} {Sw X:Nat->Prop} {W:World} {z:Nat}
open Classical
noncomputable def sD(F:Fs)(X:Nat->Prop)(z:Nat)(h:Array Obj):Array Obj:=h.mapIdx λb o=>if X b then (match o with | .cells xs t fr=>.cells (xs.map (jn F X)) t (if b<z then (0,xs.size) else fr)|o=>o) else o
theorem Cj{h:Array Obj}:(sD F X z h).size=h.size:=by simp[sD]
theorem zh{h:Array Obj}{b:Nat}{H:Array Value}{t:TypeId}{I:Nat×Nat}(hr:X b)(e:h[b]? = some (.cells H t I)):(sD F X z h)[b]? = some (.cells (H.map (jn F X)) t (if b<z then (0,H.size) else I)):=by
 unfold sD;rw[Array.getElem?_mapIdx,e];simp[hr]
theorem HR.mix{h:Array Obj}{K:Cs}(hc:∀b,X b->∃H t I,h[b]? = some (.cells H t I))(hG:F.G<h.size)(Z:F.cm=false)(M:∀b,¬ F.cut b)(U:z<=h.size):HR F K z (mO X) (sD F X z h) h where
 left:=by rintro a b b' ⟨rfl,_⟩ ⟨rfl,_⟩;rfl
 right:=by rintro a a' b ⟨rfl,_⟩ ⟨rfl,_⟩;rfl
 obj:=by
  rintro a b ⟨rfl,hr⟩;obtain⟨H,t,I,e⟩:=hc a hr;refine⟨_,_,zh hr e,e,.inl (.cells t ⟨eO,λi h1 h2=>by rw[Array.getElem_map];exact Kz _⟩ ?_)⟩;split
  ·exact .inr ⟨Z,eO⟩
  ·exact .inl rfl
 ro:=by
  rintro a b ⟨rfl,hr⟩ ύ;obtain⟨H,t,I,e⟩:=hc a hr;exact⟨H.map (jn F X),t,by rw[zh hr e,if_pos ύ];simp⟩
 base:=U
 lo:=by rw[Cj];exact hG
 lo2:=hG
 yT:=λ_=>⟨Cj,λ_ _ h=>h.1⟩
 co:=λb J=>absurd J (M b)
 qH:=λ_ b _ J=>absurd J (M b)
theorem HR.ahl{K:Cs}{base:Nat}{B:Bl}{h h':Array Obj}(H:HR F K base B h h'):HR F K 0 B h h':={ H with ro:=λ_ b _ h=>absurd h (not_lt_zero b),base:=zero_le _ }
noncomputable def gI(F:Fs)(X:Nat->Prop)(z:Nat)(W:World)(T:Nat->Question->Nat)(d:Nat):World:=at_ W (sD F X z W.heap) T d
theorem Mn.uS(M:Mn F k Sw X W){T:Nat->Question->Nat}{d:Nat}{p:Addr}{v:Value}(H:X p.block)(hv:VR F (mO X) v v)(hc:W.cell? p=some v):(gI F X z W T d).cell? p=some v:=by
 obtain⟨I,t,U,e⟩:=M.cells _ H;have J:(gI F X z W T d).heap[p.block]? = some (.cells (I.map (jn F X)) t (if p.block<z then (0,I.size) else U)):=zh H e;simp only[World.cell?,e] at hc;simp only[World.cell?,J];split at hc
 ·cases hc
 ·rename_i Z;rw[if_neg Z];rw[Array.getElem?_map,hc];simp[eD hv]
theorem Mn.KG{T:Nat->Question->Nat}{d:Nat}:(gI F X z W T d).heap.size=W.heap.size:=Cj
theorem Mn.ahm{T:Nat->Question->Nat}{d:Nat}{b:Nat}{I:Array Value}{t:TypeId}{H:Nat×Nat}(J:X b)(M:z<=b)(e:W.heap[b]? = some (.cells I t H)):(gI F X z W T d).heap[b]? = some (.cells (I.map (jn F X)) t H):=by
 have:=zh (F:=F) (z:=z) J e;rwa [if_neg bB] at this
theorem After.abU{hL:Array Obj}{B:Bl}{W':World}{D:Nat->Prop}(M:Mn F k Sw X W)(A:After F P k Sw X W hL B W'){E:Nat->Prop}(H:∀b,b<W.heap.size->¬ E b->hL[b]? = (sD F X z W.heap)[b]?)(hd:∀b,D b->W'.heap[b]? = W.heap[b]?):Kept F (λb=>X b/\¬ E b) D W W' where
 size:=A.fr.size
 cell:=λp v I U hc=>by
  have hX:=I.1;have U:=U.mono λb (h:X b/\¬ E b)=>h.1
  have Z:iy hL p=some v:=by
   have:=M.uS (z:=z) (T:=λ_ _=>0) (d:=0) hX U.self hc;unfold iy;rw[H _ (M.lt hX) I.2];exact this
  obtain⟨v',h2,h3⟩:=A.cell (A.ext _ _ ⟨rfl,hX⟩) Z;rw[h2,A.val U h3]
 blk:=λb c t fr J e=>by
  have hb:=J.1;obtain⟨o,o',Z,h2,ho⟩:=A.hr.obj _ _ (A.ext _ _ ⟨rfl,hb⟩);rw[H b (M.lt hb) J.2,zh hb e] at Z;cases Z;rcases ho with ho|⟨_,ys,t',he,rfl,_⟩;rotate_left
  ·injection he with _ ht _;subst ht;exact⟨_,_,h2⟩
  cases ho with
  | cells t U hz=>exact⟨_,_,h2⟩
 dead:=hd
 env:=⟨A.fr.os,A.fr.output⟩
theorem aM.KH(b:Base F P k)(Ċ:F.cm=false)(È:∀b,¬ F.cut b)(M:Mn F k Sw X W)(hz:z<=W.heap.size){Z:Frame}{cs:List Frame}{ts:List Value}{c:Code}(hc:dR P k c=true)(hK:∃x K,k.K = .code x::K)(hf:F.fk Z.fn)(hk:Z.kind = .normal)(PN PR:Act->Array Obj->Prop)
  (C:∀T d,c.wp P (λe a w=>a.defers = []/\((e = .normal/\PN a w.heap)\/(e = .ret/\PR a w.heap))) ⟨(ts.map (jn F X)).toArray,[]⟩ (gI F X z W T d))
  (ŭ:∀U I W' B hL,aX F B U.tmps I.tmps->I.defers = []->After F P k Sw X W hL B W'->(∀b,b<W.heap.size->X b->z<=b\/W'.heap[b]? = W.heap[b]?)->PN U hL->aM P Q N Sw 0 W' (G (Z.at I k.K) cs))
  (Ο:∀U I todo W' B hL,aX F B U.tmps I.tmps->I.defers = []->After F P k Sw X W hL B W'->(∀b,b<W.heap.size->X b->z<=b\/W'.heap[b]? = W.heap[b]?)->PR U hL->aM P Q N Sw 0 W' (G { Z.at I todo with mode:=.returning } cs)):aM P Q N Sw 0 W (G (Z.at ⟨ts.toArray,[]⟩ (.code c::k.K)) cs):=by
 refine aM.Dz (Ro:=λb=>X b/\b<z) (O:=λb=>X b/\z<=b) (S:=Ky F P k z (mO X) Z cs PN PR) (λd=>(Gb b.S (main:=true) (Ro:=λb=>X b/\b<z) (base:=z) (M.gb b.S.G) (λa b h=>?_) (λ_ h=>h.2) (λ_ h=>h.2) b.hin (wL:=W) (w:=W.at d) (HR.mix M.cells M.G Ċ È hz) hc hK hf hk (Rj ts) rfl rfl PN PR Dw (λ_=>trivial) b.trap C).mono λ_ _ _ h=>EW hk h) (λb h=>ze M b h.1) (λb h=>ze M b h.1) ?_
 ·by_cases H:b<z
  ·exact .inl ⟨h.1 ▸ h.2,H⟩
  ·exact .inr ⟨h.1 ▸ h.2,Nat.le_of_not_lt H⟩
 ·rintro g' W' O' ⟨U,I,B,hL,h1,h2,h3,h4,h5,h6,h7⟩ ϣ hO hnw ĥ;have A:After F P k Sw X W hL B W':=⟨h4.ahl,h5,λa b H=>(h6 a b H).elim (λh=>⟨(h4.lt H).2,M.sw _ (h.1 ▸ h.2)⟩) (hO b),M.kF,ϣ,⟨ĥ.size,λb H hn=>ĥ.old b H λh=>hn h.1,ĥ.os,ĥ.output⟩,λa b H=>(h6 a b H).elim (λh=>.inl (h.1 ▸ h.2)) λh=>(hnw b h).imp (·.1) id⟩;have J:∀b,b<W.heap.size->X b->z<=b\/W'.heap[b]? = W.heap[b]?:=λb H hX=>by
   by_cases hbz:z<=b
   ·exact .inl hbz
   ·exact .inr (ĥ.old b H λh=>hbz h.2)
  rcases h7 with⟨rfl,h7⟩|⟨todo,rfl,h7⟩
  ·exact ŭ _ _ _ _ _ h1 h3 A J h7
  ·exact Ο _ _ _ _ _ _ h1 h3 A J h7
end
end Px
namespace Px
open Go Go.Conc
section
variable {P:Program} {Q:Machine->Outcome->World->Trace->Prop} {N:Nat} {Sw:Nat->Prop} {dm:Nat} {W:World} {g:Goroutine}
theorem Al.abV(Z:∀b,Sw b->b<W.heap.size)(hr:g.status = .running):Al P Sw 0 #[g] W #[] g:=by
 refine⟨⟨LG P Sw 0 1 W λx _ _=>x=g,[.run true (λx _ _=>x=g) g W λ_=>False],?_,rfl,rfl,rfl,rfl⟩,rfl,hr⟩;have no:∀k b,¬ dP [.run true (λx _ _=>x=g) g W λ_=>False] k b:=by
  rintro k b ⟨r,I,U⟩;match k,I with
  | 0,I=>cases I;exact U
  | k+1,I=>simp at I
 have e:∀i:Nat,(#[]:Trace)[i]? = none:=λi=>eO;constructor
 ·rfl
 ·refine⟨⟨λk k' b h=>absurd h (no k b),λk b h=>absurd h (no k b),λk b h=>absurd h (no k b),λb h=>h.elim,λk b h=>absurd h (no k b),λb h=>h.elim,Z⟩,⟨(λi op x h=>by rw[e] at h;cases h),λk b _ h=>absurd h (no k b),λk b _ h=>h.elim,λi a b h=>?_,λM h=>?_,(λi op h=>by rw[e] at h;cases h)⟩,λj J=>?_,λa i h=>?_,λi x h=>?_⟩
  ·obtain⟨op,h,_⟩:=touch_of h;rw[e] at h;cases h
  ·obtain⟨i,j,_,⟨a,b,h,_⟩,_⟩:=h;obtain⟨op,h,_⟩:=touch_of h;rw[e] at h;cases h
  ·have:Deaf #[] j=0:=ConcN.Deaf_absent λi op h=>by rw[e] at h;cases h
   rw[this];simp[Pl.D,LG]
  ·simp[Trace.act?] at h
  ·obtain⟨op,h,_⟩:=touch_of h;rw[e] at h;cases h
 ·intro h;exact absurd h (Nat.lt_irrefl _)
 ·intro h;exact absurd h (Nat.lt_irrefl _)
 ·intro h;exact absurd h (Nat.lt_irrefl _)
 ·exact λ_ _ _ _=>rfl
 ·exact⟨_,_,rfl,rfl,rfl,rfl,rfl,hr,.stop λ_ _=>rfl,.refl ..⟩
 ·intro j r x J h;match j,h with
  | 0,_=>exact absurd rfl J
  | j+1,h=>simp at h
 ·intro j i H;cases H
 ·intro j j' i H;cases H
 ·intro i H;omega
 ·intro i H;cases H
 ·exact nodup_nil
 ·exact zero_le _
 ·intro h;exact absurd h (Nat.lt_irrefl _)
 ·intro g1 w1 O1 h;cases h
theorem aai(h:aM P Q 1 Sw 0 W g)(H:∀b,Sw b->b<W.heap.size)(hr:g.status = .running):Fin P Q (solo g W) #[]:=by
 rw[solo_eq_crowd];have e:∀b,Sw b->b<(W.at W.drawn).heap.size:=H;exact h #[g] #[] W.drawn rfl (Al.abV e hr) none
theorem WU{e:Value->World->Prop}{v:Value}(he:∀w,stepG P true g w = .ended (.done v) w)(J:∀d,e v (W.at d)):aM P (Conc.Good P e) N Sw dm W g:=by
 intro gs t d Z A;refine A.sure λI t' U A' M H sl=>?_
 exact A'.last (he _) (J H)
theorem aeO{e:Frame}{fn:Func}{v:Value}{w:World}(H:e.mode = .returning)(M:e.defers = [])(hk:e.kind = .normal)(U:P.funcs[e.fn]? = some fn)(hr:ResultsC P fn e.tmps v)(Z:P.inits.idxOf? e.fn=none):stepG P true (G e []) w = .ended (.done v) w:=by
 rw[lY (by rw[H];exact λh=>by cases h)];have I:=(hr w).1;have J:=(hr w).2;simp[unwind,doReturn,M,H,hk,U,I,J,Z,seen,GStep.after]
end
