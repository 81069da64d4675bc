import Derived.Test.YtnonoiafongllaaGreatDoorPxWgGroup
import Derived.Test.YtnonoiafongllaaGreatDoorPxInvGroup
import Derived.Test.YtnonoiafongllaaGreatDoorPxRunsGroup
import Derived.Conc.Beside
namespace Px
open Go Go.Conc
inductive jI (P:Program) (Ro:Nat->Prop) (Stop:aF):Goroutine->World->(Nat->Prop)->Prop
 | stop {g:Goroutine} {w:World} {O:Nat->Prop}:(∀ d,Stop g (w.at d) O)->jI P Ro Stop g w O
 | step {g:Goroutine} {w:World} {O:Nat->Prop}:(∀ d,∃ g' w' es,stepG P true g (w.at d) = .go g' w' es/\g'.status = .running/\jU Ro O (w.at d) w' es) ->
   (∀ d g' w' es,stepG P true g (w.at d) = .go g' w' es->jI P Ro Stop g' w' (grow O (w.at d) w'))->jI P Ro Stop g w O
theorem jI.mono {P:Program} {Ro:Nat->Prop} {S S':aF} {g:Goroutine} {w:World} {O:Nat->Prop} (h:jI P Ro S g w O) (hs:∀ g w O,S g w O->S' g w O):jI P Ro S' g w O:=by
 induction h with
 | stop h=>exact .stop fun d=>hs _ _ _ (h d)
 | step h1 _ ih=>exact .step h1 ih
theorem Ai {P:Program} {Ro:Nat->Prop} {S:aF}:Way P true Ro S True (fun _ w w₁=>∃ d,w₁=w.at d) (jI P Ro S) where
 keep:=by rintro O w w₁ ⟨d,rfl⟩;exact⟨Nat.le_refl _,fun _ _=>rfl,rfl,rfl⟩
 size:=by rintro _ O w w₁ ⟨d,rfl⟩;rfl
 stop:=fun h=>.stop fun d=>h _ ⟨d,rfl⟩
 step:=fun h1 h2=>.step (fun d=>h1 _ ⟨d,rfl⟩) fun d g' w' es e=>h2 _ g' w' es ⟨d,rfl⟩ e
theorem QH {Ro Sw O:Nat->Prop} {W W':World} {d:Nat} {es:Array Event} (hf:jU Ro O (W.at d) W' es) (hro:∀ b,Ro b->b<W.heap.size/\¬ Sw b) (ho:∀ b,O b->b<W.heap.size/\¬ Sw b) (hs:∀ b,Sw b->b<W.heap.size):(∀ b,grow O (W.at d) W' b->b<W'.heap.size/\¬ Sw b)/\∀ e,e∈es->OM Sw W' e:=by
 have hg:∀ b,grow O (W.at d) W' b->b<W'.heap.size/\¬ Sw b:=fun b hb=>by
  rcases hb with hb | ⟨h1,h2⟩
  ·exact⟨Nat.lt_of_lt_of_le (ho b hb).1 hf.size,(ho b hb).2⟩
  ·exact⟨h2,fun h=>by have:=hs b h;have h1:W.heap.size<=b:=h1;omega⟩
 refine⟨hg,fun e he=>?_⟩;have no:∀ {b:Nat},Ro b\/grow O (W.at d) W' b->b<W'.heap.size/\¬ Sw b:=fun h=>h.elim (fun h=>⟨Nat.lt_of_lt_of_le (hro _ h).1 hf.size,(hro _ h).2⟩) (hg _)
 cases hf.evs e he with
 | read h=>exact⟨fun x hx=>by cases hx;exact .inr ⟨_,rfl,rfl,no h⟩,fun a h=>by cases h⟩
 | write h=>exact⟨fun x hx=>by cases hx;exact .inr ⟨_,rfl,rfl,no (.inr h)⟩,fun a h=>by cases h⟩
 | ng h=>exact⟨fun x hx=>by cases hx;exact .inr ⟨_,rfl,rfl,no h⟩,fun a h=>by cases h⟩
 | kI h=>exact⟨fun x hx=>by cases hx;exact .inr ⟨_,rfl,rfl,no (.inr h)⟩,fun a h=>by cases h⟩
 | room=>exact⟨fun x hx=>(by cases hx),fun a h=>by cases h⟩
 | ext f=>exact⟨fun x hx=>(by cases hx),fun a h=>by cases h⟩
def DY:List aT->Nat
 | []=>0
 | .quit q::l=>q+DY l
 | _::l=>DY l
theorem FW:∀ (l:List aT) (j q:Nat),l[j]? = some (.quit (q+1))->DY (l.set j (.quit q))<DY l
 | [],_,_,h=>by simp at h
 | r::l,0,q,h=>by
  simp at h;subst h;simp[DY]
 | r::l,j+1,q,h=>by
  have:=FW l j q (by simpa using h);cases r<;>simp only[List.set_cons_succ,DY]<;>omega
section
variable {P:Program} {Sw:Nat->Prop} {dm:Nat} {gs:Array Goroutine} {W:World} {t:Trace} {g:Goroutine} {Q:Machine->Outcome->World->Trace->Prop}
theorem Al.sure (A:Al P Sw dm gs W t g) (ex:∀ gs' t' d,Al P Sw dm gs' (W.at d) t' g->gs'.size=gs.size->∀ d' sl,eU P Q gs' (W.at d) t' 0 d' sl):dM P Q gs W t:=by
 have eT:=(Array.getElem?_eq_some_iff.1 A.main).1;have hr:=A.run;have hg:=A.main;obtain⟨rl,_,h⟩:=A.own (Ro:=z8) (O:=Mine Sw W) (Dk P Sw dm gs.size W fun g' _ _=>g'=g) rfl rfl rfl rfl rfl rfl rfl (fun _ h=>h.elim) (fun b h=>⟨h.1,h.2,id⟩) (.stop fun _ _=>rfl);generalize hJ:gs.size=J at h ex;have hJ1:1<=J:=by omega
 have key:∀ (n:Nat) (gs:Array Goroutine) (d0:Nat) (t:Trace) (rl:List aT),gs.size=J->gs[0]? = some g->G2 (Dk P Sw dm J W fun g' _ _=>g'=g) gs (W.at d0) t rl (fun _=>none) 0 []->DY rl=n->dM P Q gs (W.at d0) t:=by
  intro n;induction n using Nat.strongRecOn with
  | ind n ih=>
   intro gs d0 t rl hz hg h hn;refine zX h.awake ⟨0,g,hg,hr⟩ fun i x d sl hx hrun=>?_
   cases i with
   | zero=>
    rw[hg] at hx;cases hx;exact ex gs t d0 ⟨⟨_,rl,h,rfl,rfl,rfl,hz.symm⟩,hg,hr⟩ hz d sl
   | succ i=>
    have hW:=h.at d;obtain⟨hlt,_⟩:=Array.getElem?_eq_some_iff.1 hx;obtain⟨r,nL⟩:∃ r,rl[i+1]? = some r:=⟨rl[i+1]'(by rw[h.len];exact hlt),by simp⟩;match r,nL,h.work (i+1) r x (by omega) nL hx with
    | .run ..,_,⟨a,_⟩=>exact absurd (show J<=i+1 from a) (by omega)
    | .idle ..,_,⟨a,_⟩=>exact absurd (show J<=i+1 from a) (by omega)
    | .quit q,nL,_=>
     obtain⟨g',es,q',rfl,e1,hG⟩:=hW.leave nL hx hrun;have hG:=hG x.frame.fn x.frame.place;refine .inl ⟨_,_,_,runT_crowd_go hx (e1 _),?_⟩;have hw:gs.map (Conc.woken P x g' (W.at d))=gs:=G2.woken (Kj hJ1) h (fun h=>absurd (show J<gs.size from h) (by omega)) (fun h=>absurd (show J<gs.size from h) (by omega)) x g';rw[show ((W.at d0).at d)=W.at d from rfl,hw];exact ih _ (hn ▸ FW rl (i+1) q' nL) _ d _ _ (by simpa using hz) (by rw[Array.getElem?_setIfInBounds_ne (by omega)];exact hg) hG rfl
 exact key _ gs W.drawn t rl hJ hg h rfl
end
variable {F:Fs} {P:Program} {k:Ok}
open Classical in
noncomputable def jY (F:Fs) (X:Nat->Prop) (h:Array Obj):Array Obj:=h.mapIdx fun b o=>if X b then (match o with | .cells xs t z=>.cells (if F.cut b then #[] else xs.map (jn F X)) t z | o=>o) else o
theorem vw {X:Nat->Prop} {h:Array Obj}:(jY F X h).size=h.size:=by simp[jY]
theorem wE {X:Nat->Prop} {h:Array Obj} {b:Nat} {xs:Array Value} {t:TypeId} {z:Nat×Nat} (hr:X b) (hc:¬ F.cut b) (e:h[b]? = some (.cells xs t z)):(jY F X h)[b]? = some (.cells (xs.map (jn F X)) t z):=by
 unfold jY;rw[Array.getElem?_mapIdx,e];simp[hr,hc]
theorem yt {X:Nat->Prop} {h:Array Obj} {b:Nat} {xs:Array Value} {t:TypeId} {z:Nat×Nat} (hr:X b) (hc:F.cut b) (e:h[b]? = some (.cells xs t z)):(jY F X h)[b]? = some (.cells #[] t z):=by
 unfold jY;rw[Array.getElem?_mapIdx,e];simp[hr,hc]
def Pb (F:Fs) (X:Nat->Prop) (h:Array Obj):Prop:=∀ b,F.cut b->X b/\F.co b=h[b]? /\ ∃ xs t,h[b]? = some (.cells xs t (0,0))/\xs.size≠0
theorem HR.Yj {X:Nat->Prop} {h:Array Obj} {K:Cs} (hc:∀ b,X b->∃ xs t z,h[b]? = some (.cells xs t z)) (hG:F.G<h.size) (hct:Pb F X h):HR F K 0 (ji X) (jY F X h) h where
 left:=by rintro a b b' ⟨rfl,_⟩ ⟨rfl,_⟩;rfl
 right:=by rintro a a' b ⟨rfl,_⟩ ⟨rfl,_⟩;rfl
 obj:=by
  rintro a b ⟨rfl,hr⟩;by_cases hb:F.cut a
  ·obtain⟨_,_,xs,t,e,hn⟩:=hct a hb;exact⟨_,_,yt hr hb e,e,.inr ⟨hb,xs,t,rfl,rfl,hn⟩⟩
  ·obtain⟨xs,t,z,e⟩:=hc a hr;exact⟨_,_,wE hr hb e,e,.inl (.cells t ⟨by simp,fun i h1 h2=>by rw[Array.getElem_map];exact Ci _⟩ (.inl rfl))⟩
 ro:=fun _ b _ h=>absurd h (Nat.not_lt_zero b)
 base:=Nat.zero_le _
 lo:=by rw[vw];exact hG
 lo2:=hG
 rA:=fun _=>⟨vw,fun _ _ h=>h.1⟩
 co:=fun b hb=>⟨⟨rfl,(hct b hb).1⟩,(hct b hb).2.1.symm⟩
 mF:=by
  rintro a b ⟨rfl,hr⟩ hb;obtain⟨_,_,xs,t,e,hn⟩:=hct a hb;exact⟨xs,t,yt hr hb e,e,hn⟩
theorem Pv.rA {B:Bl} {Ro:Nat->Prop} (hB:∀ a b,B a b->a=b) {v:Value} (hv:Pv F Ro v):∀ {v'},VR F B v v'->v'=v:=by
 have TB:∀ {x z:Addr},AR F B x z->z=x:=fun {x z} hb=>by
  have:=hB _ _ hb.block;obtain⟨b1,o1,s1⟩:=x;obtain⟨b2,o2,s2⟩:=z;have h2:=hb.off;have h3:=hb.spot;dsimp only at this h2 h3;subst this h2 h3;rfl
 induction hv with
 | bool b=>intro v' h;cases h;rfl
 | int k n=>intro v' h;cases h;rfl
 | string s=>intro v' h;cases h;rfl
 | bn=>intro v' h;cases h;rfl
 | ptr hr=>
  intro v' h;cases h with
  | ptr hb=>rw[TB hb]
 | bG n c=>intro v' h;cases h;rfl
 | sl n c hr=>
  intro v' h;cases h with
  | sl _ _ hb=>rw[TB hb]
  | sl0=>rfl
 | sl0 a=>
  intro v' h;cases h with
  | sl0=>rfl
  | sl _ _ hb=>rw[TB hb]
 | func hf=>
  intro v' h;cases h with
  | @func _ _ zs _ ws _ g1 g2 g3 g4=>
   have e1:zs=#[]:=Array.eq_empty_of_size_eq_zero g1.symm;have e2:ws=#[]:=Array.eq_empty_of_size_eq_zero g2.symm;rw[e1,e2]
 | nilFunc=>intro v' h;cases h;rfl
 | nilIface=>intro v' h;cases h;rfl
 | iface t _ ih=>
  intro v' h;cases h with
  | iface _ h=>rw[ih h]
 | agg _ ih=>
  intro v' h;cases h with
  | @agg _ zs g1 g2=>
   congr 1;apply Array.ext g1.symm;intro i a b;exact ih i b (g2 i b a)
end Px
namespace Px
open Go Go.Conc
section
variable {P:Program} {Sw:Nat->Prop} {dm:Nat} {gs:Array Goroutine} {W:World} {t:Trace} {g:Goroutine}
theorem Al.good (A:Al P Sw dm gs W t g) {Post:Value->World->Prop} {v:Value} {w':World} (hp:Post v w') (sl:Option (Nat×Nat)):Conc.Good P Post (crowd gs W sl) (.done v) w' t:=by
 obtain⟨⟨p,rl,h,rfl,rfl,rfl,hJ⟩,hg,hr⟩:=A;have out:∀ k,k≠0->∀ x,gs[k]? = some x->∃ n,QuitsD p.P n (Deaf t k) x/\HO t k:=by
  intro k hk x hx;have hlt:=(Array.getElem?_eq_some_iff.1 hx).1;obtain⟨r,hr'⟩:∃ r,rl[k]? = some r:=⟨rl[k]'(by rw[h.len];exact hlt),by simp⟩;match r,h.work k r x hk hr' hx with
  | .run ..,⟨a,_⟩=>omega
  | .idle ..,⟨a,_⟩=>omega
  | .quit n,⟨_,b,c⟩=>exact⟨n,b,c⟩
 refine⟨v,rfl,hp,h.wi.ti.nr,fun i k hi hk hc=>?_,⟨fun x hx=>?_,rfl⟩,fun i x hx hi=>?_⟩
 ·have hk':∃ op,t[i]? = some op/\op.g=k:=by
   unfold Trace.g? at hi;cases ho:t[i]? with
   | none=>rw[ho] at hi;cases hi
   | some op=>rw[ho] at hi;exact⟨op,rfl,by simpa using hi⟩
  obtain⟨op,ho,rfl⟩:=hk';have hlt:=h.wi.ti.gs i op ho;obtain⟨x,hx⟩:∃ x,gs[op.g]? = some x:=⟨gs[op.g]'(by rw[<-h.len];exact hlt),by simp⟩;obtain⟨_,_,hho⟩:=out _ hk x hx;obtain⟨q,y,h1,h2,h3⟩:=hho i (by rw[Trace.g?,ho];rfl) hc;rcases h3 with rfl | h3
  ·rw[ho] at h1;cases h1;exact absurd h2 hk
  ·exact⟨q,by rw[Trace.g?,h1];exact congrArg some h2,h3⟩
 ·obtain⟨k,hk⟩:=List.mem_iff_getElem?.1 hx;rw[List.getElem?_drop] at hk;have hk:gs.toList[1+k]? = some x:=hk;rw[Array.getElem?_toList] at hk;obtain⟨n,hq,_⟩:=out (1+k) (by omega) x hk;exact⟨n,hq.leaves⟩
 ·obtain⟨n,hq,_⟩:=out i hi x hx;exact⟨n,hq.hears W⟩
theorem Al.last (A:Al P Sw dm gs W t g) {d:Nat} {sl:Option (Nat×Nat)} {Post:Value->World->Prop} {v:Value} (e1:stepG P true g (W.at d) = .ended (.done v) (W.at d)) (hp:Post v (W.at d)):eU P (Conc.Good P Post) gs W t 0 d sl:=by
 refine .inr ⟨_,_,_,runT_many_ended A.main (by exact e1),fun sl'=>?_⟩;have:t++MemOp.ofEvents 0 g.frame.fn g.frame.place #[]=t:=by simp[MemOp.ofEvents]
 rw[this];exact A.good hp sl'
end
end Px
set_option maxRecDepth 100000
set_option maxHeartbeats 2000000
namespace Px
open Go Go.Conc
def aM (P:Program) (Q:Machine->Outcome->World->Trace->Prop) (N:Nat) (Sw:Nat->Prop) (dm:Nat) (W:World) (g:Goroutine):Prop:=∀ gs t d,gs.size=N->Al P Sw dm gs (W.at d) t g->dM P Q gs (W.at d) t
theorem QI {w:World} {a:Addr} {v:Value} (h:w.cell? a=some v):a.block<w.heap.size:=by
 refine Decidable.byContradiction fun hn=>?_
 have e:w.heap[a.block]? = none:=by simp;omega
 simp[World.cell?,e] at h
def La (Sw:Nat->Prop) (W:World) (e:Event):Prop:=∃ a wr,e=⟨.cell a,wr,false⟩/\a.block<W.heap.size/\¬ Sw a.block
theorem La.ok {Sw:Nat->Prop} {W:World} {e:Event} (h:La Sw W e):OM Sw W e:=by
 obtain⟨a,wr,rfl,h1,h2⟩:=h;exact⟨fun x hx=>by cases hx;exact .inr ⟨_,rfl,rfl,h1,h2⟩,fun a h=>by cases h⟩
section
variable {P:Program} {Q:Machine->Outcome->World->Trace->Prop} {N:Nat} {Sw aG:Nat->Prop} {dm gK:Nat} {W W':World} {g g':Goroutine}
theorem aM.at (h:aM P Q N Sw dm W g) (d:Nat):aM P Q N Sw dm (W.at d) g:=fun gs t d' hz A=>h gs t d' hz A
theorem aM.step (h:∀ d,∃ g' W' es,stepG P true g (W.at d) = .go g' W' es/\W.heap.size<=W'.heap.size/\(W'.os=W.os/\W'.output=W.output)/\(∀ b,Sw b->aG b)/\(∀ b,aG b->Sw b\/(W.heap.size<=b/\b<W'.heap.size))/\(∀ e,e∈es->OM aG W' e)/\deafBehind dm es=gK/\g'.status = .running/\aM P Q N aG gK W' g'):aM P Q N Sw dm W g:=by
 intro gs t d hz A;refine A.sure fun gs' t' d1 A' hz' d2 sl=>?_
 obtain⟨g',W',es,e1,h1,he,h2,h3,h4,h5,h6,h7⟩:=h d2;exact A'.step (d:=d2) e1 h1 he h2 h3 h4 h5 h6 fun gs'' t'' Lb Yk=>h7 gs'' t'' W'.drawn (by omega) Lb
theorem eF:aU P true (aM P Q N Sw dm W):=⟨fun {g g'} hg hg' hs hn=>.step fun d=>⟨g',W.at d,#[],hs _,Nat.le_refl _,⟨rfl,rfl⟩,fun _ h=>h,fun _ h=>.inl h,fun e he=>by simp at he,rfl,hg',hn.at d⟩⟩
variable {b:Frame} {a a':Act} {k:List Item} {cs:List Frame} {ops:Array Oper} {i:Nat} {rest:List Nat} {o:Oper} {v:Value} {d:Option Tmp}
theorem BA {fn:FuncId} {w:World} (he:∀ e,e∈Sem.events P (execOp a.eval o) w #[]->La Sw W e) (dm:Nat):deafBehind dm (listed P fn a o w)=dm:=
 deafBehind_still (fun e hm=>by obtain⟨x,wr,rfl,_⟩:=he e (mem_listed hm);exact⟨(fun h=>(by cases h)),(fun h=>(by cases h))⟩) dm
theorem aM.value {W₁:Nat->World} (hr:∀ d,Sem.run P (execOp a.eval o) (W.at d) = .ok (.value v) (W₁ d)) (s0:∀ d,W.heap.size<=(W₁ d).heap.size) (s1:∀ b,Sw b->aG b) (s2:∀ d b,aG b->Sw b\/(W.heap.size<=b/\b<(W₁ d).heap.size)) (he:∀ d e,e∈Sem.events P (execOp a.eval o) (W.at d) #[]->La aG (W₁ d) e)
  (hn:∀ d,aM P Q N aG dm (W₁ d) (G (b.at a' (.inRegion ops rest::k)) cs)) (ho:ops[i]? = some o:=by (simp only[List.getElem?_toArray,List.getElem?_cons_zero,List.getElem?_cons_succ];rfl)) (hw:Region.wanted o (yielded ops a.tmps)=true:=by rfl) (hb:b.kind ≠ .early:=by decide) (hd:o.dst=d:=by rfl)
  (hp:a.put d v=a':=by (simp only[Go.Act.put,List.setIfInBounds_toArray,List.set_cons_zero,List.set_cons_succ];rfl)) (gM:∀ d,(W₁ d).os=W.os/\(W₁ d).output=W.output:=by intro d;exact⟨rfl,rfl⟩):aM P Q N Sw dm W (G (b.at a (.inRegion ops (i::rest)::k)) cs):=by
 subst hd hp;exact .step fun d=>⟨_,W₁ d,_,stepG_value ho hw hb (hr d),s0 d,gM d,s1,s2 d,fun e hm=>(he d e (mem_listed hm)).ok,BA (he d) dm,rfl,hn d⟩
theorem aM.none {W₁:Nat->World} (hr:∀ d,Sem.run P (execOp a.eval o) (W.at d) = .ok .skip (W₁ d)) (s0:∀ d,W.heap.size<=(W₁ d).heap.size) (he:∀ d e,e∈Sem.events P (execOp a.eval o) (W.at d) #[]->La Sw (W₁ d) e)
  (hn:∀ d,aM P Q N Sw dm (W₁ d) (G (b.at a (.inRegion ops rest::k)) cs)) (ho:ops[i]? = some o:=by (simp only[List.getElem?_toArray,List.getElem?_cons_zero,List.getElem?_cons_succ];rfl)) (hw:Region.wanted o (yielded ops a.tmps)=true:=by rfl) (hb:b.kind ≠ .early:=by decide) (hd:o.dst = .none:=by rfl) (gM:∀ d,(W₁ d).os=W.os/\(W₁ d).output=W.output:=by intro d;exact⟨rfl,rfl⟩) :
  aM P Q N Sw dm W (G (b.at a (.inRegion ops (i::rest)::k)) cs):=by
 refine .step fun d=>⟨_,W₁ d,_,(stepG_none ho hw hb (hr d)).trans (by rw[hd];rfl),s0 d,gM d,fun _ h=>h,fun _ h=>.inl h,fun e hm=>(he d e (mem_listed hm)).ok,BA (he d) dm,rfl,hn d⟩
theorem Al.bound {gs:Array Goroutine} {t:Trace} (A:Al P Sw dm gs W t g):∀ b,Sw b->b<W.heap.size:=by
 obtain⟨⟨p,rl,h,_,e,_⟩,_⟩:=A;exact fun b hb=>h.wi.ap.kU b (e ▸ hb)
theorem aM.load {t:TypeId} {x:Operand} {ad:Addr} (hag:∀ w,Sem.run P (isAgg t) w = .ok false w) (hv:W.cell? ad=some v) (hs:¬ Sw ad.block) (hn:aM P Q N Sw dm W (G (b.at a' (.inRegion ops rest::k)) cs)) (ho:ops[i]? = some o:=by (simp only[List.getElem?_toArray,List.getElem?_cons_zero,List.getElem?_cons_succ];rfl))
  (hw:Region.wanted o (yielded ops a.tmps)=true:=by rfl) (hb:b.kind ≠ .early:=by decide) (hop:o.op = .load t x:=by rfl) (hx:a.eval x = .pointer (some ad):=by rfl) (hd:o.dst=d:=by rfl)
  (hp:a.put d v=a':=by (simp only[Go.Act.put,List.setIfInBounds_toArray,List.set_cons_zero,List.set_cons_succ];rfl)):aM P Q N Sw dm W (G (b.at a (.inRegion ops (i::rest)::k)) cs):=by
 have e:execOp a.eval o=(do return .value (<-Instr.loadAt t (Value.pointer (some ad)))):=by
  unfold execOp;rw[hop];simp only[hx]
 have hv':∀ d,(W.at d).cell? ad=some v:=fun _=>hv
 refine aM.value (W₁:=fun d=>W.at d) (fun d=>by rw[e];simp[go_sem,hag,hv' d]) (fun _=>Nat.le_refl _) (fun _ h=>h) (fun _ _ h=>.inl h) (fun d x hx=>?_) (fun d=>hn.at d) ho hw hb hd hp;rw[e] at hx;simp[go_sem,hag,hv' d] at hx;subst hx;exact⟨_,_,rfl,QI hv,hs⟩
end
theorem Lc {P:Program} {m:Bool} {b:Frame} {a:Act} {k:List Item} {cs:List Frame} {w:World} {ops:Array Oper} {id:Nat} :
  stepG P m (G (b.at a (.code (.region id ops true)::k)) cs) w = .go (G (b.at a (.inRegion ops (Region.schedule (P.follows .mixedOrders) ops (w.tape w.drawn (.order b.fn id)))::k)) cs) (w.at (w.drawn+1)) #[]:=by
 simp[G,stepG,stepG.exec,Frame.at,choose,Sem.run,Question.forced,Question.cut,World.at]
def Ord (md:Region.Mode) (ops:Array Oper):Nat->Array Bool->List Nat->Prop
 | 0,_,l=>l = []
 | n+1,listed,l=>(Region.ready md ops listed = []/\l = [])\/∃ i∈Region.ready md ops listed,∃ l',l=i::l'/\Ord md ops n (listed.setIfInBounds i true) l'
theorem QJ (md:Region.Mode) (ops:Array Oper):∀ (fuel t:Nat) (listed:Array Bool),Ord md ops fuel listed (Region.linearise.go md ops fuel t listed []):=by
 intro fuel;induction fuel with
 | zero=>intro t listed;simp[Region.linearise.go,Ord]
 | succ fuel ih=>
  intro t listed;simp only[Region.linearise.go];change Ord md ops (fuel+1) listed (match (Region.ready md ops listed)[t % (Region.ready md ops listed).length]? with
   | some i=>Region.linearise.go md ops fuel (t / (Region.ready md ops listed).length) (listed.setIfInBounds i true) [i]
   | none=>[].reverse)
  cases hi:(Region.ready md ops listed)[t % (Region.ready md ops listed).length]? with
  | none=>
   refine .inl ⟨?_,rfl⟩;cases hr:Region.ready md ops listed with
   | nil=>rfl
   | cons x xs=>
    rw[hr] at hi;have hlt:t % (x::xs).length<(x::xs).length:=Nat.mod_lt _ (by simp);simp at hi;simp at hlt;omega
  | some i=>
   simp only[];rw[linearise_go_acc,List.reverse_singleton,List.singleton_append];exact .inr ⟨i,List.mem_of_getElem? hi,_,rfl,ih _ _⟩
section
variable {P:Program} {Q:Machine->Outcome->World->Trace->Prop} {N:Nat} {Sw:Nat->Prop} {dm:Nat} {W:World} {b:Frame} {a:Act} {k:List Item} {cs:List Frame} {ops:Array Oper}
theorem aM.drawn (hm:P.follows .mixedOrders=true) {id:Nat} (hn:∀ l,Ord .any ops ops.size (Array.replicate ops.size false) l->aM P Q N Sw dm W (G (b.at a (.inRegion ops l::k)) cs)):aM P Q N Sw dm W (G (b.at a (.code (.region id ops true)::k)) cs):=by
 refine .step fun d=>⟨_,W.at (d+1),#[],Lc,Nat.le_refl _,⟨rfl,rfl⟩,fun _ h=>h,fun _ h=>.inl h,fun e he=>by simp at he,rfl,rfl,?_⟩
 simp only[Region.schedule,hm,Bool.true_or,if_true];exact (hn _ (QJ _ _ _ _ _)).at _
end
end Px
namespace Px
open Go Go.Conc
def qD (g:Goroutine) (O:Nat->Prop) (F:World->Prop):aF:=fun x w O'=>x=g/\O'=O/\F w
def pB (p:Pl) (h:Nat->Option Obj) (dm:Nat) (S:aF):Pl:={ p with h0:=h,dm:=dm,n:=0,dS:=fun _ _=>S }
def BT (p:Pl) (Q:Machine->Outcome->World->Trace->Prop) (N:Nat) (h:Nat->Option Obj) (dm:Nat) (O:Nat->Prop) (F:World->Prop) (g:Goroutine):Prop:=
 ∀ gs W t rl,gs.size=N->gs[0]? = some g->rl[0]? = some (.run true (qD g O F) g W O)->G2 (pB p h dm (qD g O F)) gs W t rl (fun _=>none) 0 []->F W->dM p.P Q gs W t
def EvB (Sw Ro O:Nat->Prop) (e:Event):Prop:=(∀ x,(MemAct.ofEvent e).touch? = some x->(nK Sw x.loc/\x.kind ≠ .plain)\/∃ b,blk x.loc=some b/\x.kind = .plain/\(O b\/(Ro b/\x.write=false)))/\∀ a,MemAct.ofEvent e ≠ .mark (.release a)
def zq (p:Pl) (h:Nat->Option Obj) (W:World):Prop:=∀ b,p.Sw b->b≠p.cn->b≠p.cr->W.heap[b]? = h b
section
variable {p:Pl} {Q:Machine->Outcome->World->Trace->Prop} {N:Nat} {h h':Nat->Option Obj} {dm gK:Nat} {O X:Nat->Prop} {F F':World->Prop} {g g':Goroutine}
theorem Ik (o:p.Ok) {S:aF}:(pB p h dm S).Ok where
 ne:=o.ne
 j0:=o.j0
 dm:=fun h=>absurd h (Nat.lt_irrefl _)
 hR:=fun g w O x=>let ⟨g1,e,_⟩:=o.hR g w O x;⟨g1,e,fun _ hi=>absurd hi (Nat.not_lt_zero _)⟩
 hS:=o.hS
 hM:=fun _ _ _ _ _ _ h=>absurd h (Nat.not_lt_zero _)
theorem G2.with {q q':Pl} {gs:Array Goroutine} {W:World} {t:Trace} {rl:List aT} (G:G2 q gs W t rl (fun _=>none) 0 []) (h0:Nat->Option Obj) (e:q' = { q with h0:=h0 }) (hh:∀ b,q.Sw b->b≠q.cn->b≠q.cr->W.heap[b]? = h0 b):G2 q' gs W t rl (fun _=>none) 0 []:=by
 subst e;exact⟨G.len,G.wi,G.sw,G.lU,G.chr,hh,G.main,G.work,G.lV,G.tk1,G.uG,G.gb,G.gn,G.nn,G.one,G.wait⟩
theorem BT.pick (o:p.Ok) (hp:∀ gs W t rl w,gs.size=N->gs[0]? = some g->g.status = .running->rl[0]? = some (.run true (qD g O F) g w O)->G2 (pB p h dm (qD g O F)) gs W t rl (fun _=>none) 0 []->F W->zq p h W->∀ sl,∃ gs' w' u,runT p.P (crowd gs W sl) 0=(.next (crowd gs' w' sl),u)/\dM p.P Q gs' w' (t++u)):BT p Q N h dm O F g:=by
 intro gs W t rl hz hg hr G hF;refine gather (N:=N) (Ik o) (fun gs' W' t' rl' tk next got h' hz' hl g' w O' hj hg' hst hk d sl=>?_) 1 gs W t rl _ 0 [] G hz Nat.one_pos;have hg0:got = []:=List.length_eq_zero_iff.1 hl;have hn0:next=0:=Nat.le_zero.1 h'.nn;have ht0:tk=fun _=>none:=by
  funext j;cases hj:tk j with
  | none=>rfl
  | some i=>have:=(h'.lV j i hj).2.2.1;omega
 subst hg0 hn0 ht0;have hrun:g'.status = .running:=by
  obtain⟨r,x,h1,h2,h3⟩:=h'.main;rw[hj] at h1;cases h1;rw[hg'] at h2;cases h2;exact h3.2.2.2.1
 obtain⟨rfl,rfl,_⟩:=hst w (.refl ..);have hF':F (W'.at d):=(hst (W'.at d) (hk.trans (gD _ _ _ _))).2.2;exact .inl (hp gs' (W'.at d) t' rl' w hz' hg' hrun hj (h'.at d) hF' (fun b h1 h2 h3=>h'.fx b h1 h2 h3) sl)
theorem BT.step (o:p.Ok) (hX:∀ b,X b->p.Sw b/\b≠p.cn/\b≠p.cr) (hc:Cl p.Ro O F')
  (hs:∀ W,F W->zq p h W->∃ W' es,stepG p.P true g W = .go g' W' es/\W'.heap.size=W.heap.size/\(W'.os=W.os/\W'.output=W.output)/\(∀ b,¬ O b->¬ X b->W'.heap[b]? = W.heap[b]?)/\(∀ e,e∈es->EvB p.Sw p.Ro O e)/\deafBehind dm es=gK/\F' W'/\zq p h' W') (hr:g'.status = .running)
  (hn:BT p Q N h' gK O F' g'):BT p Q N h dm O F g:=by
 refine BT.pick o fun gs W t rl w hz hg hrun hrl G hF hfx=>?_
 obtain⟨W',es,e1,size,gM,old,hes,hd,hF',Il⟩:=hs W hF hfx;have eT:=(Array.getElem?_eq_some_iff.1 hg).1;have hsw:∀ b,p.Sw b->¬ O b:=fun b h1 h2=>G.wi.ap.sw 0 b ⟨_,hrl,h2⟩ h1
 have hcn:p.J0<gs.size->W'.heap[p.cn]? = W.heap[p.cn]?:=fun hJ=>old _ (hsw _ (G.sw hJ).1) fun hx=>(hX _ hx).2.1 rfl
 have hcr:p.J0<gs.size->W'.heap[p.cr]? = W.heap[p.cr]?:=fun hJ=>old _ (hsw _ (G.sw hJ).2) fun hx=>(hX _ hx).2.2 rfl
 have hw:gs.map (Conc.woken p.P g g' W')=gs:=G2.woken (Ik o) G (fun hJ=>by obtain⟨s,tm,e⟩:=G.lU hJ;exact⟨s,tm,(hcn hJ).trans e⟩) (fun hJ=>by obtain⟨s,tm,e⟩:=G.chr hJ;exact⟨s,tm,(hcr hJ).trans e⟩) g g';have ops:∀ op∈MemOp.ofEvents 0 g.frame.fn g.frame.place es,∃ e∈es,op=⟨0,g.frame.fn,g.frame.place,MemAct.ofEvent e⟩:=by
  intro op hop;unfold MemOp.ofEvents at hop;split at hop
  ·simp at hop
  ·obtain⟨e,he,rfl⟩:=Array.mem_map.1 hop;exact⟨e,he,rfl⟩
 have T:=G.turn (m:=true) (g':=g') (w':=W') (O':=O) (aG:=p.Sw) (X:=X) (gK:=gK) (n':=0) (u:=MemOp.ofEvents 0 g.frame.fn g.frame.place es) (M':=fun _ _=>qD g' O F') hrl (Nat.le_of_eq size.symm) gM (fun b _ h1 h2=>old b h1 h2) hX (fun _ h=>h) (fun _ h=>.inl h)
  (fun b hb=>.inl hb) (fun b hb h1=>hsw b h1 hb) (fun op hop=>by
   obtain⟨e,he,rfl⟩:=ops op hop;refine⟨rfl,fun x hx=>?_⟩;rcases (hes e he).1 x hx with⟨h1,h2⟩|⟨b,h1,_,h2⟩
   ·exact .inl ⟨h1,h2,fun _=>rfl⟩
   ·exact .inr ⟨b,h1,h2⟩) (fun op hop=>by
   obtain⟨e,he,rfl⟩:=ops op hop;exact⟨(hes e he).2,fun x hx=>((hes e he).1 x hx).imp (·.1) fun ⟨_,_,h,_⟩=>h⟩) (by rw[Deaf_own,G.wi.deaf 0 (.inl rfl)];exact hd) hr (.stop fun w₁ h₁=>⟨rfl,rfl,hc _ _ h₁ hF'⟩) (fun h=>absurd h (Nat.lt_irrefl _)) o.j0
 have T':=T.with (q':=pB p h' gK (qD g' O F')) h' rfl Il;intro sl;refine⟨_,_,_,runT_crowd_go hg (by exact e1),?_⟩;rw[hw];refine hn _ W' _ _ (by simpa using hz) (get_set_same eT _) (List.getElem?_set_self (by rw[G.len];exact eT)) T' hF'
theorem TD (o:p.Ok) (hc:Cl p.Ro O F):aU p.P true (BT p Q N h dm O F):=
 ⟨fun {g g'} _ hr hs hn=>BT.step o (X:=fun _=>False) (fun _ h=>h.elim) hc (fun W hF hx=>⟨W,#[],hs W,rfl,⟨rfl,rfl⟩,fun _ _ _=>rfl,fun e he=>by simp at he,rfl,hF,hx⟩) hr hn⟩
theorem BT.born (o:p.Ok) (hc:Cl p.Ro O F) {c:Goroutine} (hs:∀ W,F W->stepG p.P true g W = .spawn g' c W #[]) (hr:g'.status = .running) (hcr:c.status = .running) (hC:∀ W,F W->Runs p.P false p.Ro p.AtR c W fun _=>False) (hJ:p.J0<=N) (hsw:p.Sw p.cn/\p.Sw p.cr)
  (hch:∀ W,F W->zq p h W->(p.J0=N->(∃ s,iJ W p.cn s)/\∃ s,iJ W p.cr s)) (hn:BT p Q (N+1) h 0 O F g'):BT p Q N h 0 O F g:=by
 refine BT.pick o fun gs W t rl w hz hg hrun hrl G hF hfx=>?_
 have eT:=(Array.getElem?_eq_some_iff.1 hg).1;have hch':(∃ s,iJ W p.cn s)/\∃ s,iJ W p.cr s:=by
  rcases Nat.eq_or_lt_of_le hJ with e | e
  ·exact hch W hF hfx e
  ·exact⟨G.lU (by show p.J0<gs.size;omega),G.chr (by show p.J0<gs.size;omega)⟩
 have T:=G.born (p:=pB p h 0 (qD g O F)) (g':=g') (c:=c) (n':=0) (M':=fun _ _=>qD g' O F) g.frame.fn c.frame.fn g.frame.place hrl rfl hr (.stop fun w₁ h₁=>⟨rfl,rfl,hc _ _ h₁ hF⟩) hcr (hC W hF) (by show p.J0<=gs.size;omega) o.j0 hsw hch'.1 hch'.2;intro sl;refine⟨(gs.setIfInBounds 0 g').push c,W,bear gs.size g.frame.fn c.frame.fn g.frame.place,(runT_crowd_spawn hg (by exact hs W hF)).trans (by simp[MemOp.ofEvents,bear]),?_⟩;refine hn _ W _ _ (by simp[hz]) (by rw[Array.getElem?_push,if_neg (by simp;omega)];exact get_set_same eT _) (by rw[List.getElem?_append_left (by rw[List.length_set,G.len];exact eT)];exact List.getElem?_set_self (by rw[G.len];exact eT)) T hF
theorem BT.enter {W:World} (hJ:p.J0=N) (r2:∀ b,p.Ro b->b<W.heap.size/\¬ p.Sw b) (o1:∀ b,O b->b<W.heap.size/\¬ p.Sw b/\¬ p.Ro b) (hc:Cl p.Ro O F) (hF:∀ d,F (W.at d)) (hx:zq p h W) (hn:BT p Q N h dm O F g):aM p.P Q N p.Sw dm W g:=by
 intro gs t d hz A;obtain⟨rl,e,G⟩:=A.own (Ro:=p.Ro) (O:=O) { pB p h dm (qD g O F) with h0:=fun b=>W.heap[b]? } rfl rfl (hJ.trans hz.symm) rfl rfl rfl rfl r2 o1 (.stop fun w₁ h₁=>⟨rfl,rfl,hc _ _ h₁ (hF d)⟩);exact hn gs (W.at d) t rl hz A.main e (G.with (q':=pB p h dm (qD g O F)) h rfl hx) (hF d)
theorem BT.pool (o:p.Ok) (hs:∀ w,stepG p.P true g w = .go g' w) (hr:g'.status = .running) (hR:∀ W,F W->Runs p.P true p.Ro (p.dS 0 []) g' W O) (one:0<p.n->p.J0<N)
  (hn:∀ gs W t rl,gs.size=N->G2 { p with h0:=h,dm:=0 } gs W t rl (fun _=>none) 0 []->dM p.P Q gs W t):BT p Q N h 0 O F g:=by
 refine BT.pick o fun gs W t rl w hz hg hrun hrl G hF hfx=>?_
 have hsw:∀ b,p.Sw b->¬ O b:=fun b h1 h2=>G.wi.ap.sw 0 b ⟨_,hrl,h2⟩ h1
 have hw:gs.map (Conc.woken p.P g g' W)=gs:=G2.woken (Ik o) G (fun hJ=>G.lU hJ) (fun hJ=>G.chr hJ) g g';have T:=G.turn (m:=true) (g':=g') (w':=W) (O':=O) (aG:=p.Sw) (X:=fun _=>False) (gK:=0) (n':=p.n) (u:=#[]) (M':=p.dS) hrl (Nat.le_refl _) ⟨rfl,rfl⟩ (fun b _ _ _=>rfl) (fun _ h=>h.elim) (fun _ h=>h) (fun _ h=>.inl h)
  (fun b hb=>.inl hb) (fun b hb h1=>hsw b h1 hb) (fun op hop=>by simp at hop) (fun op hop=>by simp at hop) (by rw[Array.append_empty];exact G.wi.deaf 0 (.inl rfl)) hr (hR W hF) (fun hp=>by have:=one hp;show p.J0<gs.size;omega) o.j0
 intro sl;refine⟨_,_,_,runT_crowd_go hg (by exact hs W),?_⟩;rw[hw];exact hn _ _ _ _ (by simpa using hz) (T.with (q':={ p with h0:=h,dm:=0 }) h rfl hfx)
theorem BT.Vn {q:Pl} (oq:q.Ok) (o:p.Ok) (hP:q.P=p.P) (hS:q.Sw=p.Sw) (_:q.Ro=p.Ro) (hqJ:q.J0=N) (hJ:p.J0=N) (hc:Cl p.Ro O F) {c:Goroutine} (hs:∀ W,F W->stepG p.P true g W = .spawn g' c W #[]) (hr:g'.status = .running) (hcr:c.status = .running) (hC:∀ W,F W->Runs p.P false p.Ro p.AtR c W fun _=>False) (hsw:p.Sw p.cn/\p.Sw p.cr)
  (hch:∀ W,F W->zq q h W->(∃ s,iJ W p.cn s)/\∃ s,iJ W p.cr s) (hfx:∀ W,zq q h W->zq p h' W) (hO:∀ b,¬ O b) (hRl:∀ W,F W->∀ b,p.Ro b->b<W.heap.size/\¬ p.Sw b) (hn:BT p Q (N+1) h' 0 O F g'):BT q Q N h 0 O F g:=by
 refine BT.pick oq fun gs W t rl w hz hg hrun hrl G hF Il=>?_
 have eT:=(Array.getElem?_eq_some_iff.1 hg).1;have A:Al p.P p.Sw 0 gs W t g:=⟨⟨_,_,G,hP,hS,rfl,by show q.J0=gs.size;omega⟩,hg,hrun⟩;obtain⟨rl',e,G'⟩:=A.own (Ro:=p.Ro) (O:=O) { pB p h' 0 (qD g O F) with h0:=fun b=>W.heap[b]? } rfl rfl (by show p.J0=gs.size;omega) rfl rfl rfl rfl (hRl W hF) (fun b hb=>absurd hb (hO b)) (.stop fun w₁ h₁=>⟨rfl,rfl,hc _ _ h₁ hF⟩);have G2':=G'.with (q':=pB p h' 0 (qD g O F)) h' rfl (hfx W Il);have hch':=hch W hF Il;have T:=G2'.born (p:=pB p h' 0 (qD g O F)) (g':=g') (c:=c) (n':=0) (M':=fun _ _=>qD g' O F) g.frame.fn c.frame.fn g.frame.place e rfl hr (.stop fun w₁ h₁=>⟨rfl,rfl,hc _ _ h₁ hF⟩) hcr (hC W hF) (by show p.J0<=gs.size;omega) o.j0 hsw hch'.1 hch'.2;intro sl;refine⟨(gs.setIfInBounds 0 g').push c,W,bear gs.size g.frame.fn c.frame.fn g.frame.place,(runT_crowd_spawn hg (by rw[hP];exact hs W hF)).trans (by simp[MemOp.ofEvents,bear]),?_⟩;rw[hP];exact hn _ W _ _ (by simp[hz]) (by rw[Array.getElem?_push,if_neg (by simp;omega)];exact get_set_same eT _) (by rw[List.getElem?_append_left (by rw[List.length_set,G'.len];exact eT)];exact List.getElem?_set_self (by rw[G'.len];exact eT)) T hF
end
end Px
namespace Go.Proofs.YtnonoiafongllaaGreatDoor
open Go Go.Conc Px Go.ConcR.Gen
open Go.ConcR (WgAt stA smA rd wr mk DC0 Payload wgBlock)
def hG (h0:Nat->Option Obj) (Wg:Nat) (st:Int):Nat->Option Obj:=fun b=>if b=Wg then some (wgBlock 115 st 0) else h0 b
structure Bg (p:Pl) (O:Nat->Prop) (F:World->Prop) (Wg:Nat):Prop where
 o:p.Ok
 P:p.P=Tryz.prog
 cl:Cl p.Ro O F
 sw:p.Sw Wg/\Wg≠p.cn/\Wg≠p.cr
 ro:¬ p.Ro Wg
 ow:¬ O Wg
section
variable {p:Pl} {Q:Machine->Outcome->World->Trace->Prop} {N:Nat} {h0:Nat->Option Obj} {dm gK:Nat} {O:Nat->Prop} {F:World->Prop} {g g':Goroutine} {Wg:Nat}
theorem Bg.k (B:Bg p O F Wg) {h:Nat->Option Obj}:aU Tryz.prog true (BT p Q N h dm O F):=B.P ▸ TD B.o B.cl
theorem Bg.look (B:Bg p O F Wg) {st:Int} {es:Array Event} (hs:∀ w,WgAt 115 Wg w st 0->stepG Tryz.prog true g w = .go g' w es) (he:∀ e,e∈es->EvB p.Sw p.Ro O e) (hd:deafBehind dm es=gK) (hr:g'.status = .running) (hn:BT p Q N (hG h0 Wg st) gK O F g'):BT p Q N (hG h0 Wg st) dm O F g:=
 BT.step B.o (X:=fun _=>False) (fun _ h=>h.elim) B.cl (fun W hF hx=>⟨W,es,by rw[B.P];exact hs W ((hx Wg B.sw.1 B.sw.2.1 B.sw.2.2).trans (by simp[hG])),rfl,⟨rfl,rfl⟩,fun _ _ _=>rfl,he,hd,hF,hx⟩) hr hn
theorem Bg.atom (B:Bg p O F Wg) {st st':Int} (hs:∀ w,WgAt 115 Wg w st 0->stepG Tryz.prog true g w = .go g' (w.setCell (stA Wg) (.int .u64 st')) #[rd (stA Wg),wr (stA Wg)]) (hr:g'.status = .running) (hn:BT p Q N (hG h0 Wg st') dm O F g'):BT p Q N (hG h0 Wg st) dm O F g:=by
 have shw:nK p.Sw (.cell (stA Wg)):=⟨Wg,rfl,B.sw.1⟩;refine BT.step B.o (X:=fun b=>b=Wg) (fun b hb=>hb ▸ B.sw) B.cl (fun W hF hx=>?_) hr hn;have hw:WgAt 115 Wg W st 0:=(hx Wg B.sw.1 B.sw.2.1 B.sw.2.2).trans (by simp[hG]);obtain⟨h1,h2,h3⟩:=uM (p:=⟨Tryz.prog,p.Ro,115,Wg,p.cn,undef⟩) hw st';refine⟨_,_,by rw[B.P];exact hs W hw,h2,⟨rfl,rfl⟩,fun b _ hb=>h3 b hb,fun e he=>?_,?_,B.cl _ _ ⟨Nat.le_of_eq h2.symm,fun b hb=>h3 b fun e=>by subst e;exact hb.elim B.ro B.ow,rfl,rfl⟩ hF,fun b hb n1 n2=>?_⟩
 ·simp only[List.mem_toArray,List.mem_cons,List.not_mem_nil,or_false] at he;rcases he with rfl | rfl;all_goals exact⟨(fun x hx=>(by cases hx;exact .inl ⟨shw,(fun h=>(by cases h))⟩)),(fun a h=>(by cases h))⟩
 ·exact deafBehind_still (fun e he=>by
   simp only[List.mem_toArray,List.mem_cons,List.not_mem_nil,or_false] at he;rcases he with rfl | rfl<;>exact⟨(fun h=>(by cases h)),(fun h=>(by cases h))⟩) dm
 ·by_cases hbw:b=Wg
  ·subst hbw;exact h1.trans (by simp[hG])
  ·exact (h3 b hbw).trans ((hx b hb n1 n2).trans (by simp[hG,hbw]))
theorem Aj {Sw Ro O:Nat->Prop} (m:Mark) (hm:(MemAct.ofEvent (ConcR.mk m)).touch? = none) (hr:∀ a,m ≠ .release a):∀ e,e∈#[ConcR.mk m]->EvB Sw Ro O e:=by
 intro e he;simp only[List.mem_toArray,List.mem_cons,List.not_mem_nil,or_false] at he;subst he;refine⟨(fun x hx=>(by rw[hm] at hx;cases hx)),fun a ha=>?_⟩;cases m<;>first | exact hr _ (by cases ha;rfl) | cases ha
end
theorem tQ {P:Program} {m:Bool} {b:Frame} {tm:Array Value} {td:List Item} {cs:List Frame} {f:FuncId} {fn:Func} {ds:List Deferred} (hf:P.funcs[f]? = some fn) (hm:(fn.name == "runtime.NumGoroutine")=false) (hb:fn.body.isNone=true) (hx:Extern.findNext fn=none) (he:Extern.find fn=some (fun _=>do mark .enable;pure Extern.Race.none_)) (w:World) :
  stepG P m (G { b.at ⟨tm,dcall f #[]::ds⟩ td with mode:=.returning } cs) w = .go (G { b.at ⟨tm,ds⟩ td with mode:=.returning } cs) w #[ConcR.mk .enable]:=
 stepG_unwind_entry (v:=.tuple #[]) (a:=⟨tm,dcall f #[]::ds⟩) rfl hf hm hb hx he (by simp[Extern.Race.none_]) (by simp;rfl) (by
  intro x hx';simp at hx';subst hx';exact⟨rfl,fun g h=>by cases h⟩)
noncomputable def Im:Code:=Tryz.f55.body.getD .skip
section
variable {p:Pl} {Q:Machine->Outcome->World->Trace->Prop} {N:Nat} {h0:Nat->Option Obj} {O:Nat->Prop} {F:World->Prop} {Wg:Nat}
theorem TF (B:Bg p O F Wg) (v:Nat) (hv:v<100) {c:Frame} {cs:List Frame} (hn:BT p Q N (hG h0 Wg (((v+1:Nat):Int)*ConcR.KK)) 0 O F (G (c.finish (.tuple #[])) cs)) :
  BT p Q N (hG h0 Wg ((v:Int)*ConcR.KK)) 0 O F (G ((base 55).at ⟨([.pointer (some ⟨Wg,0,none⟩),goInt 1]++List.replicate 115 undef).toArray,[]⟩ [.code Im]) (c::cs)):=by
 simp only[Im,Tryz.f55,Option.getD_some,List.replicate,List.cons_append,List.nil_append];have k:aU Tryz.prog true (BT p Q N (hG h0 Wg ((v:Int)*ConcR.KK)) 0 O F):=B.k;repeat (first | refine k.seq ?_ | refine k.done ?_ | refine k.region ?_ | refine k.op ?_ | refine k.un ?_ | refine k.yes ?_ | refine k.no ?_ | refine k.skip ?_)
 refine B.look (fun w _=>stepG_mark0 .disable (by simp) rfl rfl (by decide) rfl bL.f_disable (x_disable_n lk) (x_disable_b lk) (x_disable_x lk) (x_disable_f lk)) (Aj _ rfl (by simp)) rfl rfl ?_;walk_nrm;have k:aU Tryz.prog true (BT p Q N (hG h0 Wg ((v:Int)*ConcR.KK)) 1 O F):=B.k;repeat (first | refine k.seq ?_ | refine k.done ?_ | refine k.region ?_ | refine k.op ?_ | refine k.un ?_ | refine k.yes ?_ | refine k.no ?_ | refine k.skip ?_)
 refine k.defer ?_;repeat (first | refine k.seq ?_ | refine k.done ?_ | refine k.region ?_ | refine k.op ?_ | refine k.un ?_ | refine k.yes ?_ | refine k.no ?_ | refine k.skip ?_)
 refine k.entry (.bool false) bL.f_inBubble (x_inBubble_n lk) (x_inBubble_b lk) (x_inBubble_x lk) (x_inBubble_f lk) ?_;repeat (first | refine k.seq ?_ | refine k.done ?_ | refine k.region ?_ | refine k.op ?_ | refine k.un ?_ | refine k.yes ?_ | refine k.no ?_ | refine k.skip ?_)
 refine k.call 8 Tryz.func92 rfl (by kernel_rfl) ?_;repeat (first | refine k.seq ?_ | refine k.done ?_ | refine k.region ?_ | refine k.op ?_ | refine k.un ?_ | refine k.yes ?_ | refine k.no ?_ | refine k.skip ?_)
 rw[show IntKind.u64.wrap (IntKind.u64.wrap 1*2 ^ min (Int.toNat 32) IntKind.u64.bits)=4294967296 from by decide];rcases Nat.eq_zero_or_pos v with rfl | hvp
 ·have e0:IntKind.u64.wrap (((0:Nat):Int)*ConcR.KK+4294967296)=4294967296:=by decide
  rw[show ((0+1:Nat):Int)*ConcR.KK=4294967296 from by decide] at hn;refine B.atom (fun w hw=>(stepG_add_atomic rfl rfl (by decide) rfl bL.f_addU64 (x_addU64_n lk) (x_addU64_b lk) (x_addU64_x lk) .u64 (x_addU64_f lk) rfl rfl hw.cellSt (hw.thaw 0)).trans (by rw[e0];rfl)) rfl ?_;walk_nrm;have k:aU Tryz.prog true (BT p Q N (hG h0 Wg 4294967296) 1 O F):=B.k;repeat (first | refine k.seq ?_ | refine k.done ?_ | refine k.region ?_ | refine k.op ?_ | refine k.un ?_ | refine k.yes ?_ | refine k.no ?_ | refine k.skip ?_)
  refine k.ret ?_;refine k.leave1 Tryz.func92 ?_;repeat (first | refine k.seq ?_ | refine k.done ?_ | refine k.region ?_ | refine k.op ?_ | refine k.un ?_ | refine k.yes ?_ | refine k.no ?_ | refine k.skip ?_)
  refine B.look (fun w hw=>pK rfl rfl (by decide) rfl rfl Tryz.underlying166 Tryz.underlying125 bL.room_tU32 hw.cellSm) (fun e he=>by simp at he) rfl rfl ?_;walk_nrm;repeat (first | refine k.seq ?_ | refine k.done ?_ | refine k.region ?_ | refine k.op ?_ | refine k.un ?_ | refine k.yes ?_ | refine k.no ?_ | refine k.skip ?_)
  refine B.look (fun w _=>stepG_markAt .read (by simp) rfl rfl (by decide) rfl bL.f_raceRead (x_raceRead_n lk) (x_raceRead_b lk) (x_raceRead_x lk) (x_raceRead_f lk) (ad:=⟨Wg,1,none⟩) (by simp[Act.eval];rfl)) (fun e he=>?_) rfl rfl ?_
  ·simp only[List.mem_toArray,List.mem_cons,List.not_mem_nil,or_false] at he;subst he;exact⟨(fun x hx=>(by cases hx;exact .inl ⟨⟨Wg,rfl,B.sw.1⟩,(fun h=>(by cases h))⟩)),(fun a h=>(by cases h))⟩
  walk_nrm;repeat (first | refine k.seq ?_ | refine k.done ?_ | refine k.region ?_ | refine k.op ?_ | refine k.un ?_ | refine k.yes ?_ | refine k.no ?_ | refine k.skip ?_)
  refine k.ret ?_;refine B.look (fun w _=>tQ bL.f_enable (x_enable_n lk) (x_enable_b lk) (x_enable_x lk) (x_enable_f lk) w) (Aj _ rfl (by simp)) rfl rfl ?_;have k:aU Tryz.prog true (BT p Q N (hG h0 Wg 4294967296) 0 O F):=B.k;exact k.step rfl rfl (fun w=>eX rfl rfl rfl Tryz.func55 (resultsC_none rfl _)) hn
 obtain⟨S,hS⟩:∃ S:Int,S=((v+1:Nat):Int)*ConcR.KK:=⟨_,rfl⟩;have eS:IntKind.u64.wrap ((v:Int)*ConcR.KK+4294967296)=S:=by rw[hS,IntKind.wrap_u64];simp only[ConcR.KK];omega
 rw[<-hS] at hn;refine B.atom (fun w hw=>(stepG_add_atomic rfl rfl (by decide) rfl bL.f_addU64 (x_addU64_n lk) (x_addU64_b lk) (x_addU64_x lk) .u64 (x_addU64_f lk) rfl rfl hw.cellSt (hw.thaw 0)).trans (by rw[eS];rfl)) rfl ?_;have hS2:S=((v+1:Nat):Int)*4294967296+((0:Nat):Int):=by rw[hS];simp[ConcR.KK]
 have a1:Int.fdiv S (2 ^ min (Int.toNat 32) IntKind.u64.bits)=((v+1:Nat):Int):=by
  rw[show (2:Int) ^ min (Int.toNat 32) IntKind.u64.bits=4294967296 from by decide,Int.fdiv_eq_ediv_of_nonneg _ (by decide),hS2];omega
 have b1:IntKind.u64.wrap ↑(BitVec.ofInt IntKind.u64.bits S &&& BitVec.ofInt IntKind.u64.bits 2147483648).toNat=0:=by
  have:=ConcN.st_flag (v+1) 0 (by omega) (by omega);rw[<-hS2] at this;exact this
 have b2:IntKind.u64.wrap ↑(BitVec.ofInt IntKind.u64.bits S &&& BitVec.ofInt IntKind.u64.bits 2147483647).toNat=0:=by
  have:=ConcN.st_waiters (v+1) 0 (by omega) (by omega);rw[<-hS2] at this;exact this
 have c1:IntKind.i32.wrap ((v+1:Nat):Int)=((v+1:Nat):Int):=by rw[IntKind.wrap_i32];omega
 clear hS hS2;walk_nrm;have k:aU Tryz.prog true (BT p Q N (hG h0 Wg S) 1 O F):=B.k;refine k.op ?_;refine k.done ?_;refine k.ret ?_;refine k.leave1 Tryz.func92 ?_;refine k.op ?_;refine k.done ?_;refine k.seq ?_;refine k.seq ?_;refine k.region ?_;refine k.op ?_;refine k.op (v:=.int .u64 0) ?_ (h:=by exact congrArg (fun x=>some (Next.value (.int .u64 x))) b1);refine k.op ?_;refine k.op ?_;refine k.un ?_;refine k.un ?_;refine k.op ?_;refine k.done ?_;refine k.no ?_;refine k.skip ?_;refine k.seq ?_;refine k.region ?_;refine k.op ?_;refine k.op (v:=.int .u64 ((v+1:Nat):Int)) ?_ (h:=by exact congrArg (fun x=>some (Next.value (.int .u64 x))) a1);refine k.op (v:=.int .i32 ((v+1:Nat):Int)) ?_ (h:=by exact congrArg (fun x=>some (Next.value (.int .i32 x))) c1);refine k.op ?_;refine k.done ?_;refine k.seq ?_;refine k.region ?_;refine k.op ?_;refine k.op (v:=.int .u64 0) ?_ (h:=by exact congrArg (fun x=>some (Next.value (.int .u64 x))) b2);clear a1 b1 b2 c1 eS;refine k.op ?_;refine k.op ?_;refine k.done ?_;refine k.seq ?_;refine k.seq ?_;refine k.region ?_;refine k.op ?_;refine k.op ?_;refine k.op ?_;refine k.op ?_;refine k.op ?_;refine k.op ?_;refine k.op ?_;refine k.op ?_;refine k.op (v:=.bool false) ?_ (h:=by exact congrArg (fun x=>some (Next.value (.bool x))) (decide_eq_false (by rw[show IntKind.i32.wrap 1=1 from by decide];omega)));refine k.op ?_;refine k.done ?_;refine k.no ?_;refine k.skip ?_;refine k.seq ?_;refine k.seq ?_;refine k.region ?_;refine k.op ?_;refine k.op (v:=.bool false) ?_ (h:=by exact congrArg (fun x=>some (Next.value (.bool x))) (decide_eq_false (by omega)));refine k.done ?_;refine k.no ?_;refine k.skip ?_;refine k.seq ?_;refine k.seq ?_;refine k.region ?_;repeat (first | refine k.op ?_ | refine k.un ?_)
 refine k.done ?_;refine k.no ?_;refine k.skip ?_;refine k.seq ?_;refine k.seq ?_;refine k.region ?_;refine k.op ?_;refine k.op (v:=.bool true) ?_ (h:=by exact congrArg (fun x=>some (Next.value (.bool x))) (decide_eq_true (by omega)));repeat (first | refine k.op ?_ | refine k.un ?_)
 refine k.done ?_;refine k.yes ?_;refine k.ret ?_;refine B.look (fun w _=>tQ bL.f_enable (x_enable_n lk) (x_enable_b lk) (x_enable_x lk) (x_enable_f lk) w) (Aj _ rfl (by simp)) rfl rfl ?_;have k:aU Tryz.prog true (BT p Q N (hG h0 Wg S) 0 O F):=B.k;exact k.step rfl rfl (fun w=>eX rfl rfl rfl Tryz.func55 (resultsC_none rfl _)) hn
end
end Go.Proofs.YtnonoiafongllaaGreatDoor
namespace Go.Proofs.YtnonoiafongllaaGreatDoor
open Go Go.Conc Px Go.ConcR.Gen
open Go.ConcR (WgAt stA smA rd wr mk DC0 Payload wgBlock)
noncomputable def vC:Code:=Tryz.f60.body.getD .skip
noncomputable def rX:Code:=match vC with | .seq _ (.block _ (.loop c))=>c | _=>.ret
def TG (Wg:Nat) (j:Nat->Value):List Value:=[.pointer (some ⟨Wg,0,none⟩),j 1,j 2,j 3,j 4,j 5,j 6,j 7,j 8,j 9,j 10,j 11,j 12,j 13,j 14,j 15,j 16,j 17,j 18,j 19,j 20,j 21,j 22,j 23,j 24,j 25,j 26,j 27,j 28,j 29,j 30,j 31,j 32,j 33,j 34,j 35,j 36,j 37,j 38,j 39,j 40,j 41,j 42,j 43,j 44,j 45,j 46,j 47,j 48,j 49,j 50,j 51,j 52,j 53,j 54,j 55,j 56,j 57,j 58,j 59,j 60,j 61,j 62,j 63,j 64,j 65,j 66,j 67,j 68,j 69,j 70,j 71,j 72,j 73,j 74,j 75,j 76,j 77,j 78,j 79,j 80,j 81,j 82,j 83]
noncomputable def DZ (Wg:Nat) (j:Nat->Value) (cs:List Frame):Goroutine:=G ((base 60).at ⟨(TG Wg j).toArray,[]⟩ [.code rX,.inLoop rX,.inBlock 0]) cs
set_option maxRecDepth 100000
set_option maxHeartbeats 2000000
noncomputable def wF (Wg:Nat) (j:Nat->Value) (cs:List Frame) : {g:Goroutine // ∀ T,aU Tryz.prog true T->T g->T (DZ Wg j cs)}:=by
 apply Subtype.mk;intro T k h;simp only[DZ,rX,vC,Tryz.f60,TG,Option.getD_some];repeat (first | refine k.seq ?_ | refine k.done ?_ | refine k.region ?_ | refine k.op ?_ | refine k.un ?_ | refine k.yes ?_ | refine k.no ?_ | refine k.skip ?_ | refine k.block ?_ | refine k.loop ?_ | refine k.inBlock ?_ | refine k.inLoop ?_ | refine k.exit ?_)
 refine k.call 6 Tryz.func94 rfl (by kernel_rfl) ?_;repeat (first | refine k.seq ?_ | refine k.done ?_ | refine k.region ?_ | refine k.op ?_ | refine k.un ?_ | refine k.yes ?_ | refine k.no ?_ | refine k.skip ?_ | refine k.block ?_ | refine k.loop ?_ | refine k.inBlock ?_ | refine k.inLoop ?_ | refine k.exit ?_)
 exact h
structure Kw (Ro:Nat->Prop) (Wg:Nat) (Kn:List Frame->World->(Nat->Prop)->Prop):Prop where
 keep:∀ {cs w w₁ O},Keep Ro O w w₁->Kn cs w O->Kn cs w₁ O
 ow:∀ {cs w O},Kn cs w O->¬ O Wg
 ro:¬ Ro Wg
section
variable {Ro:Nat->Prop} {Wg cn:Nat} {eR:Value} {Kn:List Frame->World->(Nat->Prop)->Prop}
def l6 (Kn:List Frame->World->(Nat->Prop)->Prop) (Wg:Nat):aF:=fun g w O=>∃ cs j,Kn cs w O/\g=(wF Wg j cs).1
def gV (Kn:List Frame->World->(Nat->Prop)->Prop):aF:=fun g w O=>∃ c cs,Kn (c::cs) w O/\∃ g1,(∀ w,stepG Tryz.prog true g w = .go g1 w)/\g1.status = .running/\∀ T,aU Tryz.prog true T->T (G (c.finish (.tuple #[])) cs)->T g1
theorem FX (K:Kw Ro Wg Kn) {cs:List Frame} {w:World} {O:Nat->Prop} (hk:Kn cs w O) (j:Nat->Value):RunT Tryz.prog true Ro O (l6 Kn Wg) w (DZ Wg j cs):=
 (wF Wg j cs).2 _ (bJ true Ro O _ w) fun _ h₁=>.stop fun _ h₂=>⟨cs,j,K.keep (h₁.trans h₂) hk,rfl⟩
theorem NC (K:Kw Ro Wg Kn) {cs:List Frame} {w:World} {O:Nat->Prop} (hk:Kn cs w O) (L:List Value) (hL:L=TG Wg fun i=>L.getD i undef):RunT Tryz.prog true Ro O (l6 Kn Wg) w (G ((base 60).at ⟨L.toArray,[]⟩ [.code rX,.inLoop rX,.inBlock 0]) cs):=by
 rw[hL];exact FX K hk _
theorem Io (K:Kw Ro Wg Kn) {cs:List Frame} {w:World} {O:Nat->Prop} (hk:Kn cs w O):RunT Tryz.prog true Ro O (uL (gp Ro Wg cn eR) (l6 Kn Wg)) w (G ((base 60).at ⟨([.pointer (some ⟨Wg,0,none⟩)]++List.replicate 83 undef:List Value).toArray,[]⟩ [.code vC]) cs):=by
 simp only[vC,Tryz.f60,Option.getD_some,List.replicate,List.cons_append,List.nil_append];have k:=bJ (P:=Tryz.prog) true Ro O (uL (gp Ro Wg cn eR) (l6 Kn Wg)) w;repeat (first | refine k.seq ?_ | refine k.done ?_ | refine k.region ?_ | refine k.op ?_ | refine k.un ?_ | refine k.yes ?_ | refine k.no ?_ | refine k.skip ?_ | refine k.block ?_ | refine k.loop ?_ | refine k.inBlock ?_ | refine k.inLoop ?_ | refine k.exit ?_)
 refine fun w₁ h₁=>.stop fun w₂ h₂=>⟨_,stepG_mark0 .disable (by simp) rfl rfl (by decide) rfl bL.f_disable (x_disable_n lk) (x_disable_b lk) (x_disable_x lk) (x_disable_f lk),rfl,?_⟩
 have hk2:=K.keep (h₁.trans h₂) hk;walk_nrm;have k:=bJ (P:=Tryz.prog) true Ro O (l6 Kn Wg) w₂;suffices h:RunT Tryz.prog true Ro O (l6 Kn Wg) w₂ _ from h w₂ (.refl ..)
 refine k.done ?_;refine k.block ?_;refine k.loop ?_;exact FX K hk2 fun i=>if i=7 then .tuple #[] else undef
theorem QK (K:Kw Ro Wg Kn) {c:Frame} {cs:List Frame} {w:World} {O:Nat->Prop} (j:Nat->Value) (hK:Kn (c::cs) w O) (hw:WgAt 115 Wg w 0 0) :
  ∃ g',stepG Tryz.prog true (wF Wg j (c::cs)).1 w = .go g' w #[rd (stA Wg)]/\g'.status = .running/\Runs Tryz.prog true Ro (Bf (gp Ro Wg cn eR) (gV Kn)) g' w O:=by
 simp only[wF];refine⟨_,stepG_load_atomic rfl rfl (by decide) rfl bL.f_loadU64 (x_loadU64_n lk) (x_loadU64_b lk) (x_loadU64_x lk) .u64 (x_loadU64_f lk) rfl hw.cellSt,rfl,?_⟩;clear hw;walk_nrm;have k:=bJ (P:=Tryz.prog) true Ro O (Bf (gp Ro Wg cn eR) (gV Kn)) w;suffices h:RunT Tryz.prog true Ro O (Bf (gp Ro Wg cn eR) (gV Kn)) w _ from h w (.refl ..)
 repeat (first | refine k.seq ?_ | refine k.done ?_ | refine k.region ?_ | refine k.op ?_ | refine k.un ?_ | refine k.yes ?_ | refine k.no ?_ | refine k.skip ?_ | refine k.block ?_ | refine k.loop ?_ | refine k.inBlock ?_ | refine k.inLoop ?_ | refine k.exit ?_)
 refine k.ret ?_;refine k.leave1 Tryz.func94 ?_;repeat (first | refine k.seq ?_ | refine k.done ?_ | refine k.region ?_ | refine k.op ?_ | refine k.un ?_ | refine k.yes ?_ | refine k.no ?_ | refine k.skip ?_ | refine k.block ?_ | refine k.loop ?_ | refine k.inBlock ?_ | refine k.inLoop ?_ | refine k.exit ?_)
 refine fun w₁ h₁=>.stop fun w₂ h₂=>⟨_,stepG_mark0 .enable (by simp) rfl rfl (by decide) rfl bL.f_enable (x_enable_n lk) (x_enable_b lk) (x_enable_x lk) (x_enable_f lk),rfl,?_⟩
 replace hK:=K.keep (h₁.trans h₂) hK;clear h₁ h₂;walk_nrm;have k:=bJ (P:=Tryz.prog) true Ro O (FI (gp Ro Wg cn eR) (gV Kn)) w₂;suffices h:RunT Tryz.prog true Ro O (FI (gp Ro Wg cn eR) (gV Kn)) w₂ _ from h w₂ (.refl ..)
 repeat (first | refine k.seq ?_ | refine k.done ?_ | refine k.region ?_ | refine k.op ?_ | refine k.un ?_ | refine k.yes ?_ | refine k.no ?_ | refine k.skip ?_ | refine k.block ?_ | refine k.loop ?_ | refine k.inBlock ?_ | refine k.inLoop ?_ | refine k.exit ?_)
 refine fun w₁ h₁=>.stop fun w₃ h₂ st sm hst=>?_
 replace hK:=K.keep (h₁.trans h₂) hK;clear h₁ h₂;refine⟨_,pK rfl rfl (by decide) rfl rfl Tryz.underlying160 Tryz.underlying125 bL.room_tWg (ConcR.WgAt.cellSt hst),rfl,?_⟩;clear hst;walk_nrm;have k:=bJ (P:=Tryz.prog) true Ro O (uK (gp Ro Wg cn eR) (gV Kn)) w₃;suffices h:RunT Tryz.prog true Ro O (uK (gp Ro Wg cn eR) (gV Kn)) w₃ _ from h w₃ (.refl ..)
 repeat (first | refine k.seq ?_ | refine k.done ?_ | refine k.region ?_ | refine k.op ?_ | refine k.un ?_ | refine k.yes ?_ | refine k.no ?_ | refine k.skip ?_ | refine k.block ?_ | refine k.loop ?_ | refine k.inBlock ?_ | refine k.inLoop ?_ | refine k.exit ?_)
 refine fun w₁ h₁=>.stop fun w₄ h₂=>⟨_,stepG_markAt .acquire (by simp) rfl rfl (by decide) rfl bL.f_acquire (x_acquire_n lk) (x_acquire_b lk) (x_acquire_x lk) (x_acquire_f lk) (by simp[Act.eval,stA,gp,Gp.stA]),rfl,fun w₅ h₃=>⟨_,_,K.keep ((h₁.trans h₂).trans h₃) hK,?_⟩⟩
 refine⟨_,fun w=>stepG_region_end,rfl,fun T k hT=>?_⟩;walk_nrm;repeat (first | refine k.seq ?_ | refine k.done ?_ | refine k.region ?_ | refine k.op ?_ | refine k.un ?_ | refine k.yes ?_ | refine k.no ?_ | refine k.skip ?_ | refine k.block ?_ | refine k.loop ?_ | refine k.inBlock ?_ | refine k.inLoop ?_ | refine k.exit ?_)
 refine k.ret ?_;exact k.step rfl rfl (fun w=>eX rfl rfl rfl Tryz.func60 (resultsC_none rfl _)) hT
abbrev tV (Wg:Nat):Array Event:=#[ConcR.mk (.write ⟨Wg,1,none⟩)]
theorem QL (K:Kw Ro Wg Kn) {c:Frame} {cs:List Frame} {w:World} {O:Nat->Prop} (j:Nat->Value) (hK:Kn (c::cs) w O) (v:Nat) (hv:v<2147483648) (h0:v≠0) (hw:WgAt 115 Wg w ((v:Int)*ConcR.KK) 0) :
  ∃ g',stepG Tryz.prog true (wF Wg j (c::cs)).1 w = .go g' w #[rd (stA Wg)]/\g'.status = .running/\Runs Tryz.prog true Ro (J5 (gp Ro Wg cn eR) (gV Kn) (tV Wg) (l6 Kn Wg) v) g' w O:=by
 simp only[wF];obtain⟨S,hS⟩:∃ S:Int,S=(v:Int)*ConcR.KK:=⟨_,rfl⟩;have hS2:S=(v:Int)*4294967296+((0:Nat):Int):=by rw[hS];simp[ConcR.KK]
 have a1:Int.fdiv S (2 ^ min (Int.toNat 32) IntKind.u64.bits)=(v:Int):=by
  rw[show (2:Int) ^ min (Int.toNat 32) IntKind.u64.bits=4294967296 from by decide,Int.fdiv_eq_ediv_of_nonneg _ (by decide),hS2];omega
 have b1:IntKind.u64.wrap ↑(BitVec.ofInt IntKind.u64.bits S &&& BitVec.ofInt IntKind.u64.bits 2147483648).toNat=0:=by
  have:=ConcN.st_flag v 0 (by omega) (by omega);rw[<-hS2] at this;exact this
 have b2:IntKind.u64.wrap ↑(BitVec.ofInt IntKind.u64.bits S &&& BitVec.ofInt IntKind.u64.bits 2147483647).toNat=0:=by
  have:=ConcN.st_waiters v 0 (by omega) (by omega);rw[<-hS2] at this;exact this
 have c1:IntKind.i32.wrap (v:Int)=(v:Int):=by rw[IntKind.wrap_i32];omega
 have eS1:IntKind.u64.wrap (S+1)=S+1:=by rw[hS2,IntKind.wrap_u64];omega
 rw[<-hS] at hw;refine⟨_,stepG_load_atomic rfl rfl (by decide) rfl bL.f_loadU64 (x_loadU64_n lk) (x_loadU64_b lk) (x_loadU64_x lk) .u64 (x_loadU64_f lk) rfl hw.cellSt,rfl,?_⟩;clear hw;walk_nrm;have k:=bJ (P:=Tryz.prog) true Ro O (J5 (gp Ro Wg cn eR) (gV Kn) (tV Wg) (l6 Kn Wg) v) w;suffices h:RunT Tryz.prog true Ro O (J5 (gp Ro Wg cn eR) (gV Kn) (tV Wg) (l6 Kn Wg) v) w _ from h w (.refl ..)
 refine k.op ?_;refine k.done ?_;refine k.ret ?_;refine k.leave1 Tryz.func94 ?_;refine k.op ?_;refine k.done ?_;refine k.seq ?_;refine k.region ?_;refine k.op ?_;refine k.op (v:=.int .u64 (v:Int)) ?_ (h:=by exact congrArg (fun x=>some (Next.value (.int .u64 x))) a1);refine k.op (v:=.int .i32 (v:Int)) ?_ (h:=by exact congrArg (fun x=>some (Next.value (.int .i32 x))) c1);refine k.op ?_;refine k.done ?_;refine k.seq ?_;refine k.region ?_;refine k.op ?_;refine k.op (v:=.int .u64 0) ?_ (h:=by exact congrArg (fun x=>some (Next.value (.int .u64 x))) b2);refine k.op ?_;refine k.op ?_;refine k.done ?_;refine k.seq ?_;refine k.seq ?_;refine k.region ?_;refine k.op ?_;refine k.op (v:=.bool false) ?_ (h:=by exact congrArg (fun x=>some (Next.value (.bool x))) (by simpa using h0));refine k.done ?_;refine k.no ?_;refine k.skip ?_;try refine k.seq ?_
 try refine k.seq ?_
 refine k.region ?_;refine k.op ?_;refine k.op ?_;refine k.op ?_;refine k.op ?_;refine k.op ?_;refine k.op (v:=.int .u64 (S+1)) ?_ (h:=by exact congrArg (fun x=>some (Next.value (.int .u64 x))) eS1);refine k.call 10 Tryz.func100 rfl (by kernel_rfl) ?_;repeat (first | refine k.seq ?_ | refine k.done ?_ | refine k.region ?_ | refine k.op ?_ | refine k.un ?_ | refine k.yes ?_ | refine k.no ?_ | refine k.skip ?_ | refine k.block ?_ | refine k.loop ?_ | refine k.inBlock ?_ | refine k.inLoop ?_ | refine k.exit ?_)
 refine fun w₁ h₁=>.stop fun w₂ h₂ v' hv' hat=>⟨fun e=>?_,fun e=>?_⟩
 ·subst e;replace hK:=K.keep (h₁.trans h₂) hK;clear h₁ h₂;replace hat:WgAt 115 Wg w₂ S 0:=hS ▸ hat
  rw[<-hS];refine⟨_,stepG_cas_hit rfl rfl (by decide) rfl bL.f_casU64 (x_casU64_n lk) (x_casU64_b lk) (x_casU64_x lk) .u64 (x_casU64_f lk) rfl rfl rfl hat.cellSt (hat.thaw 0),rfl,?_⟩;obtain⟨w₃,hw3⟩:∃ w₃,w₃=w₂.setCell (stA Wg) (.int .u64 (S+1)):=⟨_,rfl⟩;have hk3:Keep Ro O w₂ w₃:=by
   obtain⟨_,h2,h3⟩:=uM (p:=⟨Tryz.prog,Ro,115,Wg,cn,undef⟩) hat (S+1);rw[hw3];exact⟨Nat.le_of_eq h2.symm,fun b hb=>h3 b fun e=>by subst e;exact hb.elim K.ro (K.ow hK),rfl,rfl⟩
  replace hK:=K.keep hk3 hK;show Runs _ _ _ _ _ (w₂.setCell (stA Wg) (.int .u64 (S+1))) _;rw[<-hw3];clear hw3 hk3 hat
  walk_nrm;have k:=bJ (P:=Tryz.prog) true Ro O (OJ (gp Ro Wg cn eR) (gV Kn) (tV Wg)) w₃;suffices h:RunT Tryz.prog true Ro O (OJ (gp Ro Wg cn eR) (gV Kn) (tV Wg)) w₃ _ from h w₃ (.refl ..)
  repeat (first | refine k.seq ?_ | refine k.done ?_ | refine k.region ?_ | refine k.op ?_ | refine k.un ?_ | refine k.yes ?_ | refine k.no ?_ | refine k.skip ?_ | refine k.block ?_ | refine k.loop ?_ | refine k.inBlock ?_ | refine k.inLoop ?_ | refine k.exit ?_)
  refine k.ret ?_;refine k.leave1 Tryz.func100 ?_;repeat (first | refine k.seq ?_ | refine k.done ?_ | refine k.region ?_ | refine k.op ?_ | refine k.un ?_ | refine k.yes ?_ | refine k.no ?_ | refine k.skip ?_ | refine k.block ?_ | refine k.loop ?_ | refine k.inBlock ?_ | refine k.inLoop ?_ | refine k.exit ?_)
  refine fun w₁ h₁=>.stop fun w₄ h₂ st sm hst=>?_
  replace hK:=K.keep (h₁.trans h₂) hK;clear h₁ h₂;refine⟨_,pK rfl rfl (by decide) rfl rfl Tryz.underlying166 Tryz.underlying125 bL.room_tU32 (ConcR.WgAt.cellSm hst),rfl,?_⟩;clear hst;walk_nrm;have k:=bJ (P:=Tryz.prog) true Ro O (OI (gp Ro Wg cn eR) (gV Kn) (tV Wg)) w₄;suffices h:RunT Tryz.prog true Ro O (OI (gp Ro Wg cn eR) (gV Kn) (tV Wg)) w₄ _ from h w₄ (.refl ..)
  repeat (first | refine k.seq ?_ | refine k.done ?_ | refine k.region ?_ | refine k.op ?_ | refine k.un ?_ | refine k.yes ?_ | refine k.no ?_ | refine k.skip ?_ | refine k.block ?_ | refine k.loop ?_ | refine k.inBlock ?_ | refine k.inLoop ?_ | refine k.exit ?_)
  refine fun w₁ h₁=>.stop fun w₅ h₂=>⟨_,stepG_markAt .write (by simp) rfl rfl (by decide) rfl bL.f_raceWrite (x_raceWrite_n lk) (x_raceWrite_b lk) (x_raceWrite_x lk) (x_raceWrite_f lk) (ad:=⟨Wg,1,none⟩) (by simp[Act.eval];rfl),rfl,?_⟩
  replace hK:=K.keep (h₁.trans h₂) hK;clear h₁ h₂;walk_nrm;have k:=bJ (P:=Tryz.prog) true Ro O (Db (gp Ro Wg cn eR) (gV Kn)) w₅;suffices h:RunT Tryz.prog true Ro O (Db (gp Ro Wg cn eR) (gV Kn)) w₅ _ from h w₅ (.refl ..)
  repeat (first | refine k.seq ?_ | refine k.done ?_ | refine k.yes ?_ | refine k.no ?_ | refine k.skip ?_ | refine k.block ?_ | refine k.loop ?_ | refine k.inBlock ?_ | refine k.inLoop ?_ | refine k.exit ?_)
  refine k.region ?_;refine k.op ?_;repeat (first | refine k.seq ?_ | refine k.done ?_ | refine k.yes ?_ | refine k.no ?_ | refine k.skip ?_ | refine k.block ?_ | refine k.loop ?_ | refine k.inBlock ?_ | refine k.inLoop ?_ | refine k.exit ?_)
  refine k.region ?_;refine k.op ?_;refine k.op (v:=.int .u64 0) ?_ (h:=by exact congrArg (fun x=>some (Next.value (.int .u64 x))) b1);repeat (first | refine k.seq ?_ | refine k.done ?_ | refine k.region ?_ | refine k.op ?_ | refine k.un ?_ | refine k.yes ?_ | refine k.no ?_ | refine k.skip ?_ | refine k.block ?_ | refine k.loop ?_ | refine k.inBlock ?_ | refine k.inLoop ?_ | refine k.exit ?_)
  refine fun w₁ h₁=>.stop fun w₆ h₂=>⟨rfl,rfl,fun st hst=>stepG_semacquire_wait rfl rfl rfl bL.f_semacquire (x_semacquire_n lk) (x_semacquire_b lk) (x_semacquire_x lk) (x_semacquire_f lk) (by simp[Act.eval];rfl) (ConcR.WgAt.cellSm hst),fun hst=>?_⟩
  replace hK:=K.keep (h₁.trans h₂) hK;clear h₁ h₂;replace hst:WgAt 115 Wg w₆ 0 1:=hst;refine⟨_,(stepG_semacquire rfl rfl (by decide) rfl bL.f_semacquire (x_semacquire_n lk) (x_semacquire_b lk) (x_semacquire_x lk) (x_semacquire_f lk) (by simp[Act.eval];rfl) (ConcR.WgAt.cellSm hst) (by decide) (hst.thaw 1)).trans (by rfl),rfl,?_⟩;obtain⟨w₇,hw7⟩:∃ w₇,w₇=w₆.setCell (smA Wg) (.int .u32 0):=⟨_,rfl⟩;have WQ:Keep Ro O w₆ w₇:=by
   obtain⟨_,h2,h3⟩:=Dc (p:=⟨Tryz.prog,Ro,115,Wg,cn,undef⟩) hst 0;rw[hw7];exact⟨Nat.le_of_eq h2.symm,fun b hb=>h3 b fun e=>by subst e;exact hb.elim K.ro (K.ow hK),rfl,rfl⟩
  replace hK:=K.keep WQ hK;show Runs _ _ _ _ _ (w₆.setCell (smA Wg) (.int .u32 0)) _;rw[<-hw7];clear hw7 WQ hst;walk_nrm;have k:=bJ (P:=Tryz.prog) true Ro O (OH (gp Ro Wg cn eR) (gV Kn)) w₇;suffices h:RunT Tryz.prog true Ro O (OH (gp Ro Wg cn eR) (gV Kn)) w₇ _ from h w₇ (.refl ..)
  repeat (first | refine k.seq ?_ | refine k.done ?_ | refine k.region ?_ | refine k.op ?_ | refine k.un ?_ | refine k.yes ?_ | refine k.no ?_ | refine k.skip ?_ | refine k.block ?_ | refine k.loop ?_ | refine k.inBlock ?_ | refine k.inLoop ?_ | refine k.exit ?_)
  refine k.call 6 Tryz.func94 rfl (by kernel_rfl) ?_;repeat (first | refine k.seq ?_ | refine k.done ?_ | refine k.region ?_ | refine k.op ?_ | refine k.un ?_ | refine k.yes ?_ | refine k.no ?_ | refine k.skip ?_ | refine k.block ?_ | refine k.loop ?_ | refine k.inBlock ?_ | refine k.inLoop ?_ | refine k.exit ?_)
  refine fun w₁ h₁=>.stop fun w h₂ hst=>?_
  replace hK:=K.keep (h₁.trans h₂) hK;clear h₁ h₂;replace hst:WgAt 115 Wg w 0 0:=hst;refine⟨_,stepG_load_atomic rfl rfl (by decide) rfl bL.f_loadU64 (x_loadU64_n lk) (x_loadU64_b lk) (x_loadU64_x lk) .u64 (x_loadU64_f lk) rfl hst.cellSt,rfl,?_⟩;clear hst;walk_nrm;have k:=bJ (P:=Tryz.prog) true Ro O (Bf (gp Ro Wg cn eR) (gV Kn)) w;suffices h:RunT Tryz.prog true Ro O (Bf (gp Ro Wg cn eR) (gV Kn)) w _ from h w (.refl ..)
  repeat (first | refine k.seq ?_ | refine k.done ?_ | refine k.region ?_ | refine k.op ?_ | refine k.un ?_ | refine k.yes ?_ | refine k.no ?_ | refine k.skip ?_ | refine k.block ?_ | refine k.loop ?_ | refine k.inBlock ?_ | refine k.inLoop ?_ | refine k.exit ?_)
  refine k.ret ?_;refine k.leave1 Tryz.func94 ?_;repeat (first | refine k.seq ?_ | refine k.done ?_ | refine k.region ?_ | refine k.op ?_ | refine k.un ?_ | refine k.yes ?_ | refine k.no ?_ | refine k.skip ?_ | refine k.block ?_ | refine k.loop ?_ | refine k.inBlock ?_ | refine k.inLoop ?_ | refine k.exit ?_)
  refine fun w₁ h₁=>.stop fun w₂ h₂=>⟨_,stepG_mark0 .enable (by simp) rfl rfl (by decide) rfl bL.f_enable (x_enable_n lk) (x_enable_b lk) (x_enable_x lk) (x_enable_f lk),rfl,?_⟩
  replace hK:=K.keep (h₁.trans h₂) hK;clear h₁ h₂;walk_nrm;have k:=bJ (P:=Tryz.prog) true Ro O (FI (gp Ro Wg cn eR) (gV Kn)) w₂;suffices h:RunT Tryz.prog true Ro O (FI (gp Ro Wg cn eR) (gV Kn)) w₂ _ from h w₂ (.refl ..)
  repeat (first | refine k.seq ?_ | refine k.done ?_ | refine k.region ?_ | refine k.op ?_ | refine k.un ?_ | refine k.yes ?_ | refine k.no ?_ | refine k.skip ?_ | refine k.block ?_ | refine k.loop ?_ | refine k.inBlock ?_ | refine k.inLoop ?_ | refine k.exit ?_)
  refine fun w₁ h₁=>.stop fun w₃ h₂ st sm hst=>?_
  replace hK:=K.keep (h₁.trans h₂) hK;clear h₁ h₂;refine⟨_,pK rfl rfl (by decide) rfl rfl Tryz.underlying160 Tryz.underlying125 bL.room_tWg (ConcR.WgAt.cellSt hst),rfl,?_⟩;clear hst;walk_nrm;have k:=bJ (P:=Tryz.prog) true Ro O (uK (gp Ro Wg cn eR) (gV Kn)) w₃;suffices h:RunT Tryz.prog true Ro O (uK (gp Ro Wg cn eR) (gV Kn)) w₃ _ from h w₃ (.refl ..)
  repeat (first | refine k.seq ?_ | refine k.done ?_ | refine k.region ?_ | refine k.op ?_ | refine k.un ?_ | refine k.yes ?_ | refine k.no ?_ | refine k.skip ?_ | refine k.block ?_ | refine k.loop ?_ | refine k.inBlock ?_ | refine k.inLoop ?_ | refine k.exit ?_)
  refine fun w₁ h₁=>.stop fun w₄ h₂=>⟨_,stepG_markAt .acquire (by simp) rfl rfl (by decide) rfl bL.f_acquire (x_acquire_n lk) (x_acquire_b lk) (x_acquire_x lk) (x_acquire_f lk) (by simp[Act.eval,stA,gp,Gp.stA]),rfl,fun w₅ h₃=>⟨_,_,K.keep ((h₁.trans h₂).trans h₃) hK,?_⟩⟩
  refine⟨_,fun w=>stepG_region_end,rfl,fun T k hT=>?_⟩;walk_nrm;repeat (first | refine k.seq ?_ | refine k.done ?_ | refine k.region ?_ | refine k.op ?_ | refine k.un ?_ | refine k.yes ?_ | refine k.no ?_ | refine k.skip ?_ | refine k.block ?_ | refine k.loop ?_ | refine k.inBlock ?_ | refine k.inLoop ?_ | refine k.exit ?_)
  refine k.ret ?_;exact k.step rfl rfl (fun w=>eX rfl rfl rfl Tryz.func60 (resultsC_none rfl _)) hT
 ·replace hK:=K.keep (h₁.trans h₂) hK;clear h₁ h₂;replace hat:WgAt 115 Wg w₂ ((v':Int)*ConcR.KK) 0:=hat
  refine⟨_,stepG_cas_miss rfl rfl (by decide) rfl bL.f_casU64 (x_casU64_n lk) (x_casU64_b lk) (x_casU64_x lk) .u64 (x_casU64_f lk) rfl rfl rfl hat.cellSt (hat.thaw 0) (by rw[hS2];simp only[ConcR.KK];omega),rfl,?_⟩;clear hat
  walk_nrm;have k:=bJ (P:=Tryz.prog) true Ro O (l6 Kn Wg) w₂;suffices h:RunT Tryz.prog true Ro O (l6 Kn Wg) w₂ _ from h w₂ (.refl ..)
  refine k.op ?_;refine k.done ?_;refine k.ret ?_;refine k.leave1 Tryz.func100 ?_;repeat (first | refine k.done ?_ | refine k.no ?_ | refine k.skip ?_ | refine k.inBlock ?_)
  refine k.inLoop ?_;exact NC K hK _ rfl
theorem Vo (K:Kw Ro Wg Kn) (hc:∀ {cs w O},Kn cs w O->cs ≠ []):MQ (gp Ro Wg cn eR) (gV Kn) (tV Wg) (l6 Kn Wg):=by
 rintro g w O ⟨cs,j,hK,rfl⟩ v hv hat
 replace hat:WgAt 115 Wg w ((v:Int)*ConcR.KK) 0:=hat
 obtain⟨c,cs,rfl⟩:∃ c cs',cs=c::cs':=by
  cases cs with
  | nil=>exact absurd rfl (hc hK)
  | cons c cs=>exact⟨c,cs,rfl⟩
 by_cases h0:v=0
 ·subst h0;obtain⟨g',h1,h2,h3⟩:=QK (cn:=cn) (eR:=eR) K j hK (by simpa using hat);exact⟨g',h1,h2,fun _=>h3,fun h=>absurd rfl h⟩
 ·obtain⟨g',h1,h2,h3⟩:=QL (cn:=cn) (eR:=eR) K j hK v hv h0 hat
  exact⟨g',h1,h2,fun h=>absurd h h0,fun _=>h3⟩
end
end Go.Proofs.YtnonoiafongllaaGreatDoor
namespace Px
open Go Go.Conc
section
variable {P:Program} {m:Bool} {T:Goroutine->Prop} {b:Frame} {a a':Act} {k:List Item} {cs:List Frame} {ops:Array Oper} {i:Nat} {rest:List Nat} {o:Oper} {v:Value} {d:Option Tmp}
theorem aU.bi (c:aU P m T) (hn:T (G (b.at a' (.inRegion ops rest::k)) cs)) (hr:∀ w,Sem.run P (execOp a.eval o) w = .ok (.value v) w) (he:∀ w,Sem.events P (execOp a.eval o) w #[]=#[]) (ho:ops[i]? = some o:=by (simp only[List.getElem?_toArray,List.getElem?_cons_zero,List.getElem?_cons_succ];rfl)) (hw:Region.wanted o (yielded ops a.tmps)=true:=by rfl) (hb:b.kind ≠ .early:=by decide) (hd:o.dst=d:=by rfl)
  (hp:a.put d v=a':=by (simp only[Go.Act.put,Go.Act.eval,Array.getD_eq_getD_getElem?,List.getElem?_toArray,List.getElem?_cons_zero,List.getElem?_cons_succ,Option.getD_some,List.setIfInBounds_toArray,List.set_cons_zero,List.set_cons_succ,List.getElem_toArray,List.getElem_cons_zero,List.getElem_cons_succ];rfl)) :
  T (G (b.at a (.inRegion ops (i::rest)::k)) cs):=by
 subst hd hp;exact c.step rfl rfl (fun w=>by rw[stepG_value ho hw hb (hr w)];unfold listed;rw[he w,seen_none]) hn
end
section
variable {P:Program} {Q:Machine->Outcome->World->Trace->Prop} {N:Nat} {Sw aG:Nat->Prop} {dm:Nat} {W:World} {b:Frame} {a a':Act} {k:List Item} {cs:List Frame} {ops:Array Oper} {i:Nat} {rest:List Nat} {o:Oper} {v:Value} {d:Option Tmp}
theorem aM.make {ob:Obj} {mk:Nat->Value} (hrun:∀ w,Sem.run P (execOp a.eval o) w = .ok (.value (mk w.heap.size)) (w.alloc ob)) (hev:∀ w,Sem.events P (execOp a.eval o) w #[]=#[]) (s1:∀ b,Sw b->aG b) (s2:∀ b,aG b->Sw b\/b=W.heap.size)
  (hn:aM P Q N aG dm (W.alloc ob) (G (b.at (a.put d (mk W.heap.size)) (.inRegion ops rest::k)) cs))
  (ho:ops[i]? = some o:=by (simp only[List.getElem?_toArray,List.getElem?_cons_zero,List.getElem?_cons_succ];rfl)) (hw:Region.wanted o (yielded ops a.tmps)=true:=by rfl) (hb:b.kind ≠ .early:=by decide) (hd:o.dst=d:=by rfl):aM P Q N Sw dm W (G (b.at a (.inRegion ops (i::rest)::k)) cs):=by
 have es:(W.alloc ob).heap.size=W.heap.size+1:=World.size_alloc ..;refine aM.value (W₁:=fun d=>(W.alloc ob).at d) (fun d=>hrun (W.at d)) (fun d=>by show W.heap.size<=(W.alloc ob).heap.size;omega) s1 (fun d x hx=>(s2 x hx).imp id fun e=>by show W.heap.size<=x/\x<(W.alloc ob).heap.size;omega) (fun d e he=>by rw[hev] at he;simp at he) (fun d=>hn.at d) ho hw hb hd rfl
theorem aM.store {t tt:TypeId} {x y:Operand} {g off:Nat} {v:Value} {vs:List Value} {cur:Array Value} (hvs:v.cells=vs.toArray) (h1:∀ u∈vs,u.oneCell'=true) (hsz:(P.info? t).map (·.size)=some vs.length) (hS:¬ Sw g) (hc:W.heap[g]? = some (.cells cur tt (0,0))) (hl:off+vs.length<=cur.size)
  (hn:aM P Q N Sw dm (W.setRow g (cur.toList.take off++vs++cur.toList.drop (off+vs.length)).toArray) (G (b.at a (.inRegion ops rest::k)) cs))
  (ho:ops[i]? = some o:=by (simp only[List.getElem?_toArray,List.getElem?_cons_zero,List.getElem?_cons_succ];rfl)) (hw:Region.wanted o (yielded ops a.tmps)=true:=by rfl) (hb:b.kind ≠ .early:=by decide) (hop:o.op = .store t x y:=by rfl) (hx:a.eval x = .pointer (some ⟨g,off,.none⟩):=by rfl) (hy:a.eval y=v:=by rfl) (hd:o.dst = .none:=by rfl):aM P Q N Sw dm W (G (b.at a (.inRegion ops (i::rest)::k)) cs):=by
 have e:execOp a.eval o=(do Instr.storeAt t (Value.pointer (some ⟨g,off,.none⟩)) v;return .skip):=by
  unfold execOp;rw[hop];simp only[hx,hy]
 obtain⟨I,hI,hIs⟩:∃ I,P.info? t=some I/\I.size=vs.length:=by
  cases h:P.info? t with
  | none=>rw[h] at hsz;cases hsz
  | some I=>rw[h] at hsz;exact⟨I,rfl,by simpa using hsz⟩
 have hlt:g<W.heap.size:=(Array.getElem?_eq_some_iff.1 hc).1;refine aM.none (W₁:=fun d=>(W.setRow g (cur.toList.take off++vs++cur.toList.drop (off+vs.length)).toArray).at d) (fun d=>?_) (fun d=>Nat.le_of_eq (by show W.heap.size=(W.setRow g _).heap.size;simp)) (fun d y he=>?_) (fun d=>hn.at d) ho hw hb hd
 ·have hst:=run_storeCells_at P g off tt vs 0 cur (W.at d) hc (by simpa using hl) h1;simp only[Nat.add_zero] at hst;rw[e];unfold Instr.storeAt storeVar;rw[hvs];simp[go_sem,Go.sizeOf,typeInfo,hI,hIs,hst];rfl
 ·have hst:=run_storeCells_at P g off tt vs 0 cur (W.at d) hc (by simpa using hl) h1;simp only[Nat.add_zero] at hst;rw[e] at he;unfold Instr.storeAt storeVar at he;rw[hvs] at he;simp[go_sem,Go.sizeOf,typeInfo,hI,hIs] at he;rcases nX g off tt vs 0 cur (W.at d) #[] hc (by simpa using hl) h1 y he with h | ⟨V9,rfl,hb'⟩
  ·simp at h
  ·exact⟨_,_,rfl,by rw[hb'];show g<(W.setRow g _).heap.size;simp;exact hlt,by rw[hb'];exact hS⟩
end
end Px
namespace Go.Proofs.YtnonoiafongllaaGreatDoor
open Go Go.Conc Px
open Go.ConcR (WgAt wgBlock)
set_option maxRecDepth 100000
set_option maxHeartbeats 2000000
noncomputable def fZ:Code:=Tryz.f37.body.getD .skip
noncomputable def kZ:Array Oper:=match fZ with | .seq _ (.seq (.region _ o _) _)=>o | _=>#[]
noncomputable def kD:Code:=match fZ with | .seq _ (.seq _ c)=>c | _=>.ret
noncomputable def jZ:Code:=match kD with | .seq _ (.seq (.seq _ (.block _ (.loop c))) _)=>c | _=>.ret
noncomputable def gq:Code:=match kD with | .seq _ (.seq (.seq _ (.block _ (.loop _))) c)=>c | _=>.ret
theorem D5:∀ k0 k1 k2 k3 k4 k5:Bool,∀ i∈Region.ready .any kZ #[k0,k1,k2,k3,k4,k5],(i=0/\k0=false)\/(i=1/\k1=false)\/(i=2/\k2=false)\/(i=3/\k3=false)\/(i=4/\k4=false/\k0=true/\k2=true)\/(i=5/\k5=false/\k1=true/\k3=true):=by decide +kernel
theorem QM:∀ k0 k1 k2 k3 k4 k5:Bool,Region.ready .any kZ #[k0,k1,k2,k3,k4,k5] = []->k0=true/\k1=true/\k2=true/\k3=true/\k4=true/\k5=true:=by decide +kernel
def vD (X Y:Value) (wk b3 b5:Nat) (v7 v8 v11 v12:Value):List Value:=[X,goInt wk,Y,.pointer (some ⟨b3,0,none⟩),undef,.pointer (some ⟨b5,0,none⟩),.slice none 0 0,v7,v8,undef,undef,v11,v12]++List.replicate 14 undef
def qE:Obj:=.chan 0 #[] false 0 0 false
structure CI (W₂ W:World) (Sw aG:Nat->Prop) (k0 k1 k2 k3 k4 k5:Bool) (v7 v8 v11 v12:Value) (c1 c2 b7 b8:Nat):Prop where
 size:W₂.heap.size<=W.heap.size
 old:∀ b,b<W₂.heap.size->W.heap[b]? = W₂.heap[b]?
 sw:∀ b,aG b↔Sw b\/(k0=true/\b=c1)\/(k1=true/\b=c2)
 h0:k0=true->v11 = .chan (some c1)/\W₂.heap.size<=c1/\c1<W.heap.size/\W.heap[c1]? = some qE
 h1:k1=true->v12 = .chan (some c2)/\W₂.heap.size<=c2/\c2<W.heap.size/\W.heap[c2]? = some qE
 h2:k2=true->v7 = .pointer (some ⟨b7,0,none⟩)/\W₂.heap.size<=b7/\b7<W.heap.size/\W.heap[b7]? = some (.cells #[if k4 then .chan (some c1) else .chan none] 106 (0,0))
 h3:k3=true->v8 = .pointer (some ⟨b8,0,none⟩)/\W₂.heap.size<=b8/\b8<W.heap.size/\W.heap[b8]? = some (.cells #[if k5 then .chan (some c2) else .chan none] 107 (0,0))
 h4:k4=true->k0=true/\k2=true
 h5:k5=true->k1=true/\k3=true
 ne:k0=true->k1=true->c1≠c2
 FY:k2=true->k3=true->b7≠b8
 env:W.os=W₂.os/\W.output=W₂.output
theorem pY (W:World) (o:Obj):(W.alloc o).heap[W.heap.size]? = some o:=by
 show (W.heap.push o)[W.heap.size]? = _;rw[Array.getElem?_push,if_pos rfl]
theorem gu (W:World) (o:Obj) {b:Nat} (h:b<W.heap.size):(W.alloc o).heap[b]? = W.heap[b]?:=by
 show (W.heap.push o)[b]? = _;rw[Array.getElem?_push,if_neg (by omega)]
theorem TH (w:World):(Instr.makeChan 106 (goInt 0)).run Tryz.prog w = .ok (.chan (some w.heap.size)) (w.alloc qE):=by
 obtain⟨I,hI,hb⟩:=Option.map_eq_some_iff.1 (by kernel_rfl:(Tryz.prog.info? 3).map (·.bytes)=some 8);exact run_makeChan (n:=0) (by kernel_rfl:Tryz.prog.underlying 106=some (.chan .both 3)) hI .i64 (by omega) (by simp)
theorem TJ (w:World):(Instr.makeChan 106 (goInt 0)).events Tryz.prog w #[]=#[]:=by
 obtain⟨I,hI,hb⟩:=Option.map_eq_some_iff.1 (by kernel_rfl:(Tryz.prog.info? 3).map (·.bytes)=some 8);exact events_makeChan (n:=0) (by kernel_rfl:Tryz.prog.underlying 106=some (.chan .both 3)) hI .i64 (by omega) (by simp) _
theorem TK (w:World):(Instr.makeChan 107 (goInt 0)).run Tryz.prog w = .ok (.chan (some w.heap.size)) (w.alloc qE):=by
 obtain⟨I,hI,hb⟩:=Option.map_eq_some_iff.1 (by kernel_rfl:(Tryz.prog.info? 104).map (·.bytes)=some 40);exact run_makeChan (n:=0) (by kernel_rfl:Tryz.prog.underlying 107=some (.chan .both 104)) hI .i64 (by omega) (by simp)
theorem TL (w:World):(Instr.makeChan 107 (goInt 0)).events Tryz.prog w #[]=#[]:=by
 obtain⟨I,hI,hb⟩:=Option.map_eq_some_iff.1 (by kernel_rfl:(Tryz.prog.info? 104).map (·.bytes)=some 40);exact events_makeChan (n:=0) (by kernel_rfl:Tryz.prog.underlying 107=some (.chan .both 104)) hI .i64 (by omega) (by simp) _
section
variable {Q:Machine->Outcome->World->Trace->Prop} {N:Nat} {Sw aG:Nat->Prop} {W₂ W:World} {k0 k1 k2 k3 k4 k5:Bool} {v7 v8 v11 v12:Value} {c1 c2 b7 b8:Nat}
theorem CI.new (h:CI W₂ W Sw aG k0 k1 k2 k3 k4 k5 v7 v8 v11 v12 c1 c2 b7 b8) (o:Obj):W₂.heap.size<=(W.alloc o).heap.size/\(∀ b,b<W₂.heap.size->(W.alloc o).heap[b]? = W₂.heap[b]?)/\(W.alloc o).heap.size=W.heap.size+1:=by
 have hs:(W.alloc o).heap.size=W.heap.size+1:=World.size_alloc ..;have:=h.size;exact⟨by omega,fun b hb=>(gu W o (by omega)).trans (h.old b hb),hs⟩
theorem CI.Vp (h:CI W₂ W Sw aG false k1 k2 k3 k4 k5 v7 v8 v11 v12 c1 c2 b7 b8):CI W₂ (W.alloc qE) Sw (fun b=>aG b\/b=W.heap.size) true k1 k2 k3 k4 k5 v7 v8 (.chan (some W.heap.size)) v12 W.heap.size c2 b7 b8:=by
 obtain⟨n1,n2,n3⟩:=h.new qE;have TM:k4=false:=by cases k4 with | false=>rfl | true=>exact absurd (h.h4 rfl).1 (by decide)
 subst TM;have hl:=h.size;refine⟨n1,n2,fun b=>?_,fun _=>⟨rfl,hl,by omega,pY ..⟩,fun hk=>?_,fun hk=>?_,fun hk=>?_,(fun hk=>(by cases hk)),h.h5,fun _ hk=>?_,h.FY,h.env⟩
 ·rw[h.sw];simp;exact⟨fun x=>by rcases x with (x | x) | x<;>simp[x],fun x=>by rcases x with x | x | x<;>simp[x]⟩
 ·obtain⟨a1,a2,a3,a4⟩:=h.h1 hk;exact⟨a1,a2,by omega,(gu _ _ a3).trans a4⟩
 ·obtain⟨a1,a2,a3,a4⟩:=h.h2 hk;exact⟨a1,a2,by omega,(gu _ _ a3).trans a4⟩
 ·obtain⟨a1,a2,a3,a4⟩:=h.h3 hk;exact⟨a1,a2,by omega,(gu _ _ a3).trans a4⟩
 ·have:=(h.h1 hk).2.2.1;omega
theorem CI.Vq (h:CI W₂ W Sw aG k0 false k2 k3 k4 k5 v7 v8 v11 v12 c1 c2 b7 b8):CI W₂ (W.alloc qE) Sw (fun b=>aG b\/b=W.heap.size) k0 true k2 k3 k4 k5 v7 v8 v11 (.chan (some W.heap.size)) c1 W.heap.size b7 b8:=by
 obtain⟨n1,n2,n3⟩:=h.new qE;have TN:k5=false:=by cases k5 with | false=>rfl | true=>exact absurd (h.h5 rfl).1 (by decide)
 subst TN;have hl:=h.size;refine⟨n1,n2,fun b=>?_,fun hk=>?_,fun _=>⟨rfl,hl,by omega,pY ..⟩,fun hk=>?_,fun hk=>?_,h.h4,(fun hk=>(by cases hk)),fun hk _=>?_,h.FY,h.env⟩
 ·rw[h.sw];simp;exact⟨fun x=>by rcases x with (x | x) | x<;>simp[x],fun x=>by rcases x with x | x | x<;>simp[x]⟩
 ·obtain⟨a1,a2,a3,a4⟩:=h.h0 hk;exact⟨a1,a2,by omega,(gu _ _ a3).trans a4⟩
 ·obtain⟨a1,a2,a3,a4⟩:=h.h2 hk;exact⟨a1,a2,by omega,(gu _ _ a3).trans a4⟩
 ·obtain⟨a1,a2,a3,a4⟩:=h.h3 hk;exact⟨a1,a2,by omega,(gu _ _ a3).trans a4⟩
 ·have:=(h.h0 hk).2.2.1;omega
theorem CI.Vr (h:CI W₂ W Sw aG k0 k1 false k3 k4 k5 v7 v8 v11 v12 c1 c2 b7 b8):CI W₂ (W.alloc (.cells #[.chan none] 106 (0,0))) Sw aG k0 k1 true k3 k4 k5 (.pointer (some ⟨W.heap.size,0,none⟩)) v8 v11 v12 c1 c2 W.heap.size b8:=by
 obtain⟨n1,n2,n3⟩:=h.new (.cells #[.chan none] 106 (0,0));have TM:k4=false:=by cases k4 with | false=>rfl | true=>exact absurd (h.h4 rfl).2 (by decide)
 subst TM;have hl:=h.size;refine⟨n1,n2,h.sw,fun hk=>?_,fun hk=>?_,fun _=>⟨rfl,hl,by omega,pY ..⟩,fun hk=>?_,(fun hk=>(by cases hk)),h.h5,h.ne,fun _ hk=>?_,h.env⟩
 ·obtain⟨a1,a2,a3,a4⟩:=h.h0 hk;exact⟨a1,a2,by omega,(gu _ _ a3).trans a4⟩
 ·obtain⟨a1,a2,a3,a4⟩:=h.h1 hk;exact⟨a1,a2,by omega,(gu _ _ a3).trans a4⟩
 ·obtain⟨a1,a2,a3,a4⟩:=h.h3 hk;exact⟨a1,a2,by omega,(gu _ _ a3).trans a4⟩
 ·have:=(h.h3 hk).2.2.1;omega
theorem CI.Vs (h:CI W₂ W Sw aG k0 k1 k2 false k4 k5 v7 v8 v11 v12 c1 c2 b7 b8):CI W₂ (W.alloc (.cells #[.chan none] 107 (0,0))) Sw aG k0 k1 k2 true k4 k5 v7 (.pointer (some ⟨W.heap.size,0,none⟩)) v11 v12 c1 c2 b7 W.heap.size:=by
 obtain⟨n1,n2,n3⟩:=h.new (.cells #[.chan none] 107 (0,0));have TN:k5=false:=by cases k5 with | false=>rfl | true=>exact absurd (h.h5 rfl).2 (by decide)
 subst TN;have hl:=h.size;refine⟨n1,n2,h.sw,fun hk=>?_,fun hk=>?_,fun hk=>?_,fun _=>⟨rfl,hl,by omega,pY ..⟩,h.h4,(fun hk=>(by cases hk)),h.ne,fun hk _=>?_,h.env⟩
 ·obtain⟨a1,a2,a3,a4⟩:=h.h0 hk;exact⟨a1,a2,by omega,(gu _ _ a3).trans a4⟩
 ·obtain⟨a1,a2,a3,a4⟩:=h.h1 hk;exact⟨a1,a2,by omega,(gu _ _ a3).trans a4⟩
 ·obtain⟨a1,a2,a3,a4⟩:=h.h2 hk;exact⟨a1,a2,by omega,(gu _ _ a3).trans a4⟩
 ·have:=(h.h2 hk).2.2.1;omega
theorem CI.s7 (h:CI W₂ W Sw aG true k1 true k3 false k5 v7 v8 v11 v12 c1 c2 b7 b8):CI W₂ (W.setRow b7 #[.chan (some c1)]) Sw aG true k1 true k3 true k5 v7 v8 v11 v12 c1 c2 b7 b8:=by
 obtain⟨a1,a2,a3,a4⟩:=h.h2 rfl;have hs:(W.setRow b7 #[.chan (some c1)]).heap.size=W.heap.size:=setRow_size ..;have ho:∀ b,b≠b7->(W.setRow b7 #[.chan (some c1)]).heap[b]? = W.heap[b]?:=fun b hb=>setRow_other _ _ _ _ hb
 have hc:∀ b o,W.heap[b]? = some o->o=qE->b≠b7:=fun b o e1 e2 e=>by subst e;rw[a4] at e1;cases e1;cases e2
 refine⟨by rw[hs];exact h.size,fun b hb=>(ho b (by omega)).trans (h.old b hb),h.sw,fun hk=>?_,fun hk=>?_,fun _=>⟨a1,a2,by rw[hs];exact a3,setRow_heap _ _ _ _ _ _ a4⟩,fun hk=>?_,fun _=>⟨rfl,rfl⟩,h.h5,h.ne,h.FY,(kr _ _ _).1.trans h.env.1,(kr _ _ _).2.trans h.env.2⟩
 ·obtain⟨a1,a2,a3,a4⟩:=h.h0 hk;exact⟨a1,a2,by rw[hs];exact a3,(ho _ (hc _ _ a4 rfl)).trans a4⟩
 ·obtain⟨a1,a2,a3,a4⟩:=h.h1 hk;exact⟨a1,a2,by rw[hs];exact a3,(ho _ (hc _ _ a4 rfl)).trans a4⟩
 ·obtain⟨a1,a2,a3,a4⟩:=h.h3 hk;exact⟨a1,a2,by rw[hs];exact a3,(ho _ (Ne.symm (h.FY rfl hk))).trans a4⟩
theorem CI.s8 (h:CI W₂ W Sw aG k0 true k2 true k4 false v7 v8 v11 v12 c1 c2 b7 b8):CI W₂ (W.setRow b8 #[.chan (some c2)]) Sw aG k0 true k2 true k4 true v7 v8 v11 v12 c1 c2 b7 b8:=by
 obtain⟨a1,a2,a3,a4⟩:=h.h3 rfl;have hs:(W.setRow b8 #[.chan (some c2)]).heap.size=W.heap.size:=setRow_size ..;have ho:∀ b,b≠b8->(W.setRow b8 #[.chan (some c2)]).heap[b]? = W.heap[b]?:=fun b hb=>setRow_other _ _ _ _ hb
 have hc:∀ b o,W.heap[b]? = some o->o=qE->b≠b8:=fun b o e1 e2 e=>by subst e;rw[a4] at e1;cases e1;cases e2
 refine⟨by rw[hs];exact h.size,fun b hb=>(ho b (by omega)).trans (h.old b hb),h.sw,fun hk=>?_,fun hk=>?_,fun hk=>?_,fun _=>⟨a1,a2,by rw[hs];exact a3,setRow_heap _ _ _ _ _ _ a4⟩,h.h4,fun _=>⟨rfl,rfl⟩,h.ne,h.FY,(kr _ _ _).1.trans h.env.1,(kr _ _ _).2.trans h.env.2⟩
 ·obtain⟨a1,a2,a3,a4⟩:=h.h0 hk;exact⟨a1,a2,by rw[hs];exact a3,(ho _ (hc _ _ a4 rfl)).trans a4⟩
 ·obtain⟨a1,a2,a3,a4⟩:=h.h1 hk;exact⟨a1,a2,by rw[hs];exact a3,(ho _ (hc _ _ a4 rfl)).trans a4⟩
 ·obtain⟨a1,a2,a3,a4⟩:=h.h2 hk;exact⟨a1,a2,by rw[hs];exact a3,(ho _ (h.FY hk rfl)).trans a4⟩
theorem QN (hSw:∀ b,Sw b->b<W₂.heap.size) (ou:CI W₂ W Sw aG k0 k1 k2 k3 k4 k5 v7 v8 v11 v12 c1 c2 b7 b8) {X Y:Value} {wk b3 b5:Nat} {K:List Item} {cs:List Frame} {i:Nat} {l:List Nat} (hi:i∈Region.ready .any kZ #[k0,k1,k2,k3,k4,k5])
  (hT:∀ W aG D6 k1' k2' D7 D8 D9 v7 v8 v11 v12 c1 c2 b7 b8,CI W₂ W Sw aG D6 k1' k2' D7 D8 D9 v7 v8 v11 v12 c1 c2 b7 b8->#[D6,k1',k2',D7,D8,D9]=(#[k0,k1,k2,k3,k4,k5]:Array Bool).setIfInBounds i true->aM Tryz.prog Q N aG 0 W (G ((base 37).at ⟨(vD X Y wk b3 b5 v7 v8 v11 v12).toArray,[]⟩ (.inRegion kZ l::K)) cs)) :
  aM Tryz.prog Q N aG 0 W (G ((base 37).at ⟨(vD X Y wk b3 b5 v7 v8 v11 v12).toArray,[]⟩ (.inRegion kZ (i::l)::K)) cs):=by
 rcases D5 _ _ _ _ _ _ _ hi with⟨rfl,rfl⟩|⟨rfl,rfl⟩|⟨rfl,rfl⟩|⟨rfl,rfl⟩|⟨rfl,rfl,rfl,rfl⟩|⟨rfl,rfl,rfl,rfl⟩
 ·have hn:=hT _ _ _ _ _ _ _ _ _ _ _ _ _ _ _ _ ou.Vp rfl;clear hT;simp only[kZ,fZ,Tryz.f37,Option.getD_some,vD,List.replicate,List.cons_append,List.nil_append] at hn ⊢;refine aM.make (ob:=qE) (mk:=fun b=>.chan (some b)) (fun w=>?_) (fun w=>?_) (fun b h=>.inl h) (fun b h=>h) ?_
  ·simp only[execOp];simp[go_sem];exact congrArg (fun r=>Result.andThen r _) (TH w)
  ·simp only[execOp];simp[go_sem];exact TJ w
  exact hn
 ·have hn:=hT _ _ _ _ _ _ _ _ _ _ _ _ _ _ _ _ ou.Vq rfl;clear hT;simp only[kZ,fZ,Tryz.f37,Option.getD_some,vD,List.replicate,List.cons_append,List.nil_append] at hn ⊢;refine aM.make (ob:=qE) (mk:=fun b=>.chan (some b)) (fun w=>?_) (fun w=>?_) (fun b h=>.inl h) (fun b h=>h) ?_
  ·simp only[execOp];simp[go_sem];exact congrArg (fun r=>Result.andThen r _) (TK w)
  ·simp only[execOp];simp[go_sem];exact TL w
  exact hn
 ·have hn:=hT _ _ _ _ _ _ _ _ _ _ _ _ _ _ _ _ ou.Vr rfl;clear hT;simp only[kZ,fZ,Tryz.f37,Option.getD_some,vD,List.replicate,List.cons_append,List.nil_append] at hn ⊢;refine aM.make (ob:=.cells #[.chan none] 106 (0,0)) (mk:=fun b=>.pointer (some ⟨b,0,none⟩)) (fun w=>?_) (fun w=>?_) (fun b h=>h) (fun b h=>.inl h) ?_
  ·simp only[execOp];simp[go_sem];skip
  ·simp only[execOp];simp[go_sem];skip
  exact hn
 ·have hn:=hT _ _ _ _ _ _ _ _ _ _ _ _ _ _ _ _ ou.Vs rfl;clear hT;simp only[kZ,fZ,Tryz.f37,Option.getD_some,vD,List.replicate,List.cons_append,List.nil_append] at hn ⊢;refine aM.make (ob:=.cells #[.chan none] 107 (0,0)) (mk:=fun b=>.pointer (some ⟨b,0,none⟩)) (fun w=>?_) (fun w=>?_) (fun b h=>h) (fun b h=>.inl h) ?_
  ·simp only[execOp];simp[go_sem];skip
  ·simp only[execOp];simp[go_sem];skip
  exact hn
 ·have hn:=hT _ _ _ _ _ _ _ _ _ _ _ _ _ _ _ _ ou.s7 rfl;clear hT;obtain⟨e7,l7,m7,a7⟩:=ou.h2 rfl;obtain⟨e11,l11,m11,a11⟩:=ou.h0 rfl;have hns:¬ aG b7:=fun h=>by
   rcases (ou.sw _).1 h with h | ⟨h1,h2⟩|⟨h1,h2⟩
   ·exact absurd (hSw _ h) (by omega)
   ·have:=(ou.h0 h1).2.2.2;rw[<-h2,a7] at this;cases this
   ·have:=(ou.h1 h1).2.2.2;rw[<-h2,a7] at this;cases this
  subst e7 e11;simp only[kZ,fZ,Tryz.f37,Option.getD_some,vD,List.replicate,List.cons_append,List.nil_append] at hn ⊢;refine aM.store (tt:=106) (off:=0) (vs:=[.chan (some c1)]) (cur:=#[.chan none]) rfl (fun u hu=>by simp at hu;subst hu;rfl) ?_ hns a7 (by simp) ?_
  ·kernel_rfl
  exact hn
 ·have hn:=hT _ _ _ _ _ _ _ _ _ _ _ _ _ _ _ _ ou.s8 rfl;clear hT;obtain⟨e7,l7,m7,a7⟩:=ou.h3 rfl;obtain⟨e11,l11,m11,a11⟩:=ou.h1 rfl;have hns:¬ aG b8:=fun h=>by
   rcases (ou.sw _).1 h with h | ⟨h1,h2⟩|⟨h1,h2⟩
   ·exact absurd (hSw _ h) (by omega)
   ·have:=(ou.h0 h1).2.2.2;rw[<-h2,a7] at this;cases this
   ·have:=(ou.h1 h1).2.2.2;rw[<-h2,a7] at this;cases this
  subst e7 e11;simp only[kZ,fZ,Tryz.f37,Option.getD_some,vD,List.replicate,List.cons_append,List.nil_append] at hn ⊢;refine aM.store (tt:=107) (off:=0) (vs:=[.chan (some c2)]) (cur:=#[.chan none]) rfl (fun u hu=>by simp at hu;subst hu;rfl) ?_ hns a7 (by simp) ?_
  ·kernel_rfl
  exact hn
def Ak (k0 k1 k2 k3 k4 k5:Bool):Nat:=(if k0 then 0 else 1)+(if k1 then 0 else 1)+(if k2 then 0 else 1)+(if k3 then 0 else 1)+(if k4 then 0 else 1)+(if k5 then 0 else 1)
theorem Ld:∀ k0 k1 k2 k3 k4 k5:Bool,∀ i∈Region.ready .any kZ #[k0,k1,k2,k3,k4,k5],∀ D6 k1' k2' D7 D8 D9:Bool,#[D6,k1',k2',D7,D8,D9]=(#[k0,k1,k2,k3,k4,k5]:Array Bool).setIfInBounds i true->Ak D6 k1' k2' D7 D8 D9+1=Ak k0 k1 k2 k3 k4 k5:=by
 intro k0 k1 k2 k3 k4 k5 i hi D6 k1' k2' D7 D8 D9 he;rcases D5 _ _ _ _ _ _ _ hi with⟨rfl,rfl⟩|⟨rfl,rfl⟩|⟨rfl,rfl⟩|⟨rfl,rfl⟩|⟨rfl,rfl,_⟩|⟨rfl,rfl,_⟩<;>(simp at he;obtain⟨rfl,rfl,rfl,rfl,rfl,rfl⟩:=he;simp[Ak]<;>omega)
theorem Vt (hSw:∀ b,Sw b->b<W₂.heap.size) {X Y:Value} {wk b3 b5:Nat} {K:List Item} {cs:List Frame}
  (hT:∀ W aG v7 v8 v11 v12 c1 c2 b7 b8,CI W₂ W Sw aG true true true true true true v7 v8 v11 v12 c1 c2 b7 b8->aM Tryz.prog Q N aG 0 W (G ((base 37).at ⟨(vD X Y wk b3 b5 v7 v8 v11 v12).toArray,[]⟩ (.inRegion kZ []::K)) cs)) :
  ∀ n k0 k1 k2 k3 k4 k5 W aG v7 v8 v11 v12 c1 c2 b7 b8 l,Ak k0 k1 k2 k3 k4 k5=n->CI W₂ W Sw aG k0 k1 k2 k3 k4 k5 v7 v8 v11 v12 c1 c2 b7 b8->Ord .any kZ n #[k0,k1,k2,k3,k4,k5] l->aM Tryz.prog Q N aG 0 W (G ((base 37).at ⟨(vD X Y wk b3 b5 v7 v8 v11 v12).toArray,[]⟩ (.inRegion kZ l::K)) cs):=by
 intro n;induction n with
 | zero=>
  intro k0 k1 k2 k3 k4 k5 W aG v7 v8 v11 v12 c1 c2 b7 b8 l hn h ho;have hl:l = []:=ho;subst hl;have:k0=true/\k1=true/\k2=true/\k3=true/\k4=true/\k5=true:=by
   revert hn;unfold Ak;cases k0<;>cases k1<;>cases k2<;>cases k3<;>cases k4<;>cases k5<;>simp
  obtain⟨rfl,rfl,rfl,rfl,rfl,rfl⟩:=this;exact hT _ _ _ _ _ _ _ _ _ _ h
 | succ n ih=>
  intro k0 k1 k2 k3 k4 k5 W aG v7 v8 v11 v12 c1 c2 b7 b8 l hn h ho;rcases ho with⟨hr,_⟩|⟨i,hi,l',rfl,ho⟩
  ·obtain⟨rfl,rfl,rfl,rfl,rfl,rfl⟩:=QM _ _ _ _ _ _ hr;simp[Ak] at hn
  ·refine QN hSw h hi fun W' abG D6 k1' k2' D7 D8 D9 v7' v8' abH abI c1' c2' b7' b8' h' he=>?_
   have hc:=Ld _ _ _ _ _ _ _ hi _ _ _ _ _ _ he;rw[<-he] at ho;exact ih _ _ _ _ _ _ _ _ _ _ _ _ _ _ _ _ _ (by omega) h' ho
end
structure DnF (W W':World) (Sw aG:Nat->Prop) (X Y:Value) (b3 b5 b7 b8 c1 c2 Wg:Nat):Prop where
 size:W.heap.size<=W'.heap.size
 old:∀ b,b<W.heap.size->W'.heap[b]? = W.heap[b]?
 sw:∀ b,aG b↔Sw b\/b=c1\/b=c2\/b=Wg
 lo:∀ b,b=b3\/b=b5\/b=b7\/b=b8\/b=c1\/b=c2->W.heap.size<=b/\b<Wg
 h3:W'.heap[b3]? = some (.cells #[X] 22 (0,0))
 h5:W'.heap[b5]? = some (.cells #[Y] 49 (0,0))
 h7:W'.heap[b7]? = some (.cells #[.chan (some c1)] 106 (0,0))
 h8:W'.heap[b8]? = some (.cells #[.chan (some c2)] 107 (0,0))
 n1:W'.heap[c1]? = some qE
 n2:W'.heap[c2]? = some qE
 g:W'.heap[Wg]? = some (wgBlock 115 0 0)
 ne:c1≠c2
 env:W'.os=W.os/\W'.output=W.output
def Pe (X Y:Value) (wk b3 b5 b7 b8 Wg:Nat) (j:Nat->Value):List Value:=[X,goInt wk,Y,.pointer (some ⟨b3,0,none⟩),j 4,.pointer (some ⟨b5,0,none⟩),.slice none 0 0,.pointer (some ⟨b7,0,none⟩),.pointer (some ⟨b8,0,none⟩),.pointer (some ⟨Wg,0,none⟩),j 10,j 11,j 12,goInt wk,j 14,j 15,j 16,j 17,j 18,j 19,j 20,j 21,j 22,j 23,j 24,j 25,j 26]
noncomputable def rY (X Y:Value) (wk i b3 b5 b7 b8 Wg:Nat) (j:Nat->Value) (cs:List Frame):Goroutine:=G ((base 37).at ⟨(Pe X Y wk b3 b5 b7 b8 Wg (fun s=>if s=14 then goInt i else j s)).toArray,[]⟩ [.code jZ,.inLoop jZ,.inBlock 0,.code gq]) cs
theorem Pf {T:Goroutine->Prop} {X Y:Value} {wk i b3 b5 b7 b8 Wg:Nat} {cs:List Frame} (hT:∀ j,T (rY X Y wk i b3 b5 b7 b8 Wg j cs)) (L:List Value) (hL:L=Pe X Y wk b3 b5 b7 b8 Wg (fun s=>if s=14 then goInt i else L.getD s undef)):T (G ((base 37).at ⟨L.toArray,[]⟩ [.code jZ,.inLoop jZ,.inBlock 0,.code gq]) cs):=by
 rw[hL];exact hT _
theorem ND {Q:Machine->Outcome->World->Trace->Prop} {N:Nat} {Sw:Nat->Prop} {W:World} (hSw:∀ b,Sw b->b<W.heap.size) {X Y:Value} (hX:∃ ba n cp,X = .slice ba n cp) (hY:∃ f,Y = .func (.func f) #[] #[]) {wk:Nat} {cs:List Frame}
  (hT:∀ W' aG b3 b5 b7 b8 c1 c2 Wg,DnF W W' Sw aG X Y b3 b5 b7 b8 c1 c2 Wg->∀ j,aM Tryz.prog Q N aG 0 W' (rY X Y wk 0 b3 b5 b7 b8 Wg j cs)) :
  aM Tryz.prog Q N Sw 0 W (G ((base 37).at ⟨([X,goInt wk,Y]++List.replicate 24 undef:List Value).toArray,[]⟩ [.code fZ]) cs):=by
 simp only[fZ,Tryz.f37,Option.getD_some,List.replicate,List.cons_append,List.nil_append];have k:aU Tryz.prog true (aM Tryz.prog Q N Sw 0 W):=eF;refine k.seq ?_;refine k.region ?_;refine aM.make (aG:=Sw) (ob:=.cells #[X] 22) (mk:=fun b=>.pointer (some ⟨b,0,none⟩)) ?_ ?_ (fun b h=>h) (fun b h=>.inl h) ?_
 ·intro w;simp only[execOp];obtain⟨ba,n,cp,rfl⟩:=hX;simp[go_sem]
 ·intro w;simp only[execOp];simp[go_sem]
 walk_nrm;refine aM.make (aG:=Sw) (ob:=.cells #[Y] 49) (mk:=fun b=>.pointer (some ⟨b,0,none⟩)) ?_ ?_ (fun b h=>h) (fun b h=>.inl h) ?_
 ·intro w;simp only[execOp];obtain⟨f,rfl⟩:=hY;simp[go_sem]
 ·intro w;simp only[execOp];simp[go_sem]
 walk_nrm;have e1:(W.alloc (.cells #[X] 22)).heap.size=W.heap.size+1:=World.size_alloc ..;obtain⟨W₂,hW₂⟩:∃ W₂,W₂=(W.alloc (.cells #[X] 22)).alloc (.cells #[Y] 49):=⟨_,rfl⟩;have e2:W₂.heap.size=W.heap.size+2:=by rw[hW₂,World.size_alloc];omega
 have o2:∀ b,b<W.heap.size->W₂.heap[b]? = W.heap[b]?:=fun b hb=>by rw[hW₂,gu _ _ (by omega),gu _ _ hb]
 have n3:W₂.heap[W.heap.size]? = some (.cells #[X] 22 (0,0)):=by rw[hW₂,gu _ _ (by omega),pY]
 have n5:W₂.heap[W.heap.size+1]? = some (.cells #[Y] 49 (0,0)):=by rw[hW₂,<-e1,pY]
 have xW:W₂.os=W.os/\W₂.output=W.output:=by rw[hW₂];exact⟨rfl,rfl⟩
 rw[e1,<-hW₂];clear hW₂;have k:aU Tryz.prog true (aM Tryz.prog Q N Sw 0 W₂):=eF;refine k.op ?_;refine k.done ?_;refine k.seq ?_;refine aM.drawn rfl fun l hl=>?_
 refine Vt (Sw:=Sw) (W₂:=W₂) (fun b hb=>by have:=hSw b hb;omega) (X:=X) (Y:=Y) (wk:=wk) (b3:=W.heap.size) (b5:=W.heap.size+1) (K:=[.code kD]) ?_ 6 false false false false false false W₂ Sw undef undef undef undef 0 0 0 0 l rfl ⟨Nat.le_refl _,fun _ _=>rfl,fun b=>by simp,(fun h=>(by cases h)),(fun h=>(by cases h)),(fun h=>(by cases h)),(fun h=>(by cases h)),(fun h=>(by cases h)),(fun h=>(by cases h)),(fun h=>(by cases h)),(fun h=>(by cases h)),rfl,rfl⟩ hl;intro W' aG v7 v8 v11 v12 c1 c2 b7 b8 h;have k:aU Tryz.prog true (aM Tryz.prog Q N aG 0 W'):=eF;refine k.done ?_;obtain⟨rfl,l1,m1,a1⟩:=h.h0 rfl;obtain⟨rfl,l2,m2,a2⟩:=h.h1 rfl;obtain⟨rfl,l7,m7,a7⟩:=h.h2 rfl;obtain⟨rfl,l8,m8,a8⟩:=h.h3 rfl;simp only[kD,fZ,Tryz.f37,Option.getD_some,vD,List.replicate,List.cons_append,List.nil_append];refine k.seq ?_;refine k.region ?_;refine aM.make (aG:=fun b=>aG b\/b=W'.heap.size) (ob:=wgBlock 115 0 0) (mk:=fun b=>.pointer (some ⟨b,0,none⟩)) ?_ ?_ (fun b h=>.inl h) (fun b h=>h) ?_
 ·intro w;simp only[execOp];simp[go_sem];rfl
 ·intro w;simp only[execOp];simp[go_sem]
 walk_nrm;have es:(W'.alloc (wgBlock 115 0 0)).heap.size=W'.heap.size+1:=World.size_alloc ..;have k:aU Tryz.prog true (aM Tryz.prog Q N (fun b=>aG b\/b=W'.heap.size) 0 (W'.alloc (wgBlock 115 0 0))):=eF;refine k.done ?_;refine k.seq ?_;refine k.seq ?_;refine k.region ?_;refine k.op ?_;refine k.op ?_;refine k.done ?_;refine k.block ?_;refine k.loop ?_;have hsz:=h.size;have old:∀ b o,b<W'.heap.size->W'.heap[b]? = o->(W'.alloc (wgBlock 115 0 0)).heap[b]? = o:=fun b o hb ho=>(gu _ _ hb).trans ho
 refine Pf (hT (W'.alloc (wgBlock 115 0 0)) (fun b=>aG b\/b=W'.heap.size) W.heap.size (W.heap.size+1) b7 b8 c1 c2 W'.heap.size ⟨by omega,fun b hb=>old b _ (by omega) ((h.old b (by omega)).trans (o2 b hb)),fun b=>?_,fun b hb=>?_,
  old _ _ (by omega) ((h.old _ (by omega)).trans n3),old _ _ (by omega) ((h.old _ (by omega)).trans n5),old _ _ m7 a7,old _ _ m8 a8,old _ _ m1 a1,old _ _ m2 a2,pY ..,h.ne rfl rfl,h.env.1.trans xW.1,h.env.2.trans xW.2⟩) _ ?_
 ·rw[h.sw];simp;exact⟨fun x=>by rcases x with (x | x | x) | x<;>simp[x],fun x=>by rcases x with x | x | x | x<;>simp[x]⟩
 ·rcases hb with rfl | rfl | rfl | rfl | rfl | rfl<;>omega
 rfl
end Go.Proofs.YtnonoiafongllaaGreatDoor
namespace Px
open Go Go.Conc
section
variable {P:Program} {Q:Machine->Outcome->World->Trace->Prop} {N:Nat} {Sw:Nat->Prop} {dm:Nat} {W:World} {g:Goroutine} {S:aF} {O:Nat->Prop}
theorem Al.solo' {Ro:Nat->Prop} (R:jI P Ro S g W O):∀ {gs:Array Goroutine} {t:Trace},Al P Sw dm gs W t g->(∀ b,Ro b->b<W.heap.size/\¬ Sw b)->(∀ b,O b->b<W.heap.size/\¬ Sw b) ->
  (∀ gs' W' t' g',Al P Sw dm gs' W' t' g'->gs'.size=gs.size->(∃ O,S g' W' O/\∀ b,O b->b<W'.heap.size/\¬ Sw b)->dM P Q gs' W' t')->dM P Q gs W t:=by
 induction R with
 | @stop g W O h=>exact fun A hro ho ex=>ex _ _ _ _ A rfl ⟨_,h W.drawn,ho⟩
 | @step g W O h1 _ ih=>
  intro gs t A hro ho ex;have hs:∀ b,Sw b->b<W.heap.size:=by
   obtain⟨⟨p,rl,h,_,rfl,_,_⟩,_,_⟩:=A;exact fun b hb=>h.wi.ap.kU b hb
  refine A.sure fun gs' t' d A' hz d' sl=>?_
  obtain⟨g',w',es,e1,e2,e3⟩:=h1 d';obtain⟨f1,f2⟩:=QH e3 hro ho hs;refine A'.step (aG:=Sw) (gK:=dm) e1 e3.size ⟨e3.os,e3.output⟩ (fun _ h=>h) (fun _ h=>.inl h) f2 (Conc.deafBehind_still (fun e he=>?_) dm) e2 fun gs'' t'' Lb hz'=>ih d' g' w' es e1 Lb (fun b hb=>⟨Nat.lt_of_lt_of_le (hro b hb).1 e3.size,(hro b hb).2⟩) f1 fun gs3 W3 t3 g3 A3 hz3 hS=>ex gs3 W3 t3 g3 A3 (by omega) hS
  cases e3.evs e he<;>exact⟨(fun h=>(by cases h)),(fun h=>(by cases h))⟩
structure Ea (O:Nat->Prop) (W W':World):Prop where
 size:W.heap.size<=W'.heap.size
 old:∀ b,b<W.heap.size->¬ O b->W'.heap[b]? = W.heap[b]?
 os:W'.os=W.os
 output:W'.output=W.output
theorem jI.frame {P:Program} {Ro:Nat->Prop} {S:aF} {g:Goroutine} {w:World} {O:Nat->Prop} (R:jI P Ro S g w O):jI P Ro (fun g' w' O'=>S g' w' O'/\Ea O w w'/\∀ b,O' b->O b\/w.heap.size<=b) g w O:=by
 induction R with
 | stop h=>exact .stop fun d=>⟨h d,⟨Nat.le_refl _,fun _ _ _=>rfl,rfl,rfl⟩,fun _ h=>.inl h⟩
 | @step g w O h1 _ ih=>
  refine .step h1 fun d g' w' es e=>(ih d g' w' es e).mono ?_
  rintro g2 w2 O2 ⟨hS,hF,hG⟩;obtain⟨g3,w3,es3,e1,_,e3⟩:=h1 d;rw[e] at e1;injection e1 with a1 a2 a3;subst a2;refine⟨hS,⟨Nat.le_trans e3.size hF.size,fun b hb hn=>?_,hF.os.trans e3.os,hF.output.trans e3.output⟩,fun b hb=>?_⟩;refine (hF.old b (Nat.lt_of_lt_of_le hb e3.size) fun hg=>?_).trans (e3.old b hb hn);rcases hg with hg | ⟨hg,_⟩
  ·exact hn hg
  ·have hg:w.heap.size<=b:=hg;omega
  rcases hG b hb with (h | ⟨h,_⟩) | h
  ·exact .inl h
  ·exact .inr h
  ·exact .inr (Nat.le_trans e3.size h)
theorem aM.Am {Ro:Nat->Prop} (hR:∀ d,jI P Ro S g (W.at d) O) (dx:∀ b,Ro b->b<W.heap.size/\¬ Sw b) (hO:∀ b,O b->b<W.heap.size/\¬ Sw b) (hn:∀ g' W' O',S g' W' O'->(∀ b,Sw b->b<W'.heap.size)->(∀ b,O' b->b<W'.heap.size/\¬ Sw b)->(∀ b,O' b->O b\/W.heap.size<=b)->Ea O W W'->aM P Q N Sw dm W' g'):aM P Q N Sw dm W g:=by
 intro gs t d hz A;refine Al.solo' (hR d).frame A dx hO fun gs' W' t' g' A' hz' ⟨O',⟨hS,hF,hG⟩,hO'⟩=>hn g' W' O' hS A'.bound hO' hG ⟨hF.size,hF.old,hF.os,hF.output⟩ gs' t' W'.drawn (by omega) A'
end
section
variable {F:Fs} {P:Program} {k:Ok} {N:Nat} {Q:Machine->Outcome->World->Trace->Prop} {Sw:Nat->Prop} {W:World}
theorem Vu (S:Setup F P k) {base:Nat} {B0:Bl} {cs0:List Frame} {O0:Nat->Prop} (hgl:GB F P k B0) (dx:∀ a b,B0 a b->O0 b) (hlow:∀ b,O0 b->base<=b)
  (hin:∀ f,F.fk f->P.inits.idxOf? f=none) {wL w:World} {hL0:Array Obj} (H:HR F (KK P k) base B0 hL0 w.heap) {b:Frame} {a a':Act} {c:Code} (hc:cK P k c=true) (hb:F.fk b.fn) (hbk:b.kind = .normal)
  (ht:aH F B0 a.tmps a'.tmps) (hd:a.defers = []) (hd':a'.defers = []) (PR:Act->Array Obj->Prop)
  (trap:∃ fr:Frame,P.funcs[fr.fn]? = none/\fr.defers = []/\∀ l,(fr.raise l).catches P=true)
  (C:∀ T d,c.wp P (fun e a w=>a.defers = []/\e = .ret/\PR a w.heap) a (at_ wL hL0 T d)) :
  jI P z8 (GA F P k base B0 b cs0 (fun _ _=>False) PR) (Conc.G (b.at a' [.code c]) cs0) w O0:=by
 refine jI.mono (S:=vX F P k base B0 cs0 (R4 b (fun _ _=>False) PR)) ?_ fun _ _ _ h=>CY hbk h
 exact qj S (main:=true) (cs0:=cs0) _ Ai (fun _=>trivial) hgl (fun a b h=>.inr (dx a b h)) (fun _ h=>h.elim) hlow hin H (f0:=b.at a [.code c]) (A9:=b.at a' [.code c]) ⟨rfl,hbk,hbk,ht,.cons (.code hc) .nil,by rw[show (b.at a _).defers=a.defers from rfl,show (b.at a' _).defers=a'.defers from rfl,hd,hd'];exact .nil,.run,.none,hb⟩ rfl
  trap (fun fr h c hx e=>by
   obtain⟨_,_,_,_,⟨hm,_⟩|⟨hm,_⟩⟩:=hx<;>rw[hm] at e<;>cases e) fun T d tail=>by
   obtain⟨e,a₁,w₁,⟨hd₁,rfl,hq⟩,harr⟩:=C T d b [] tail;have ea:a₁=⟨a₁.tmps,[]⟩:=by cases a₁;simp only at hd₁;rw[hd₁]
   obtain⟨todo,N,hN⟩:=harr;exact⟨N,_,w₁,hN,rfl,rfl,rfl,hd₁,.inr ⟨rfl,by rw[ea] at hq;exact hq⟩⟩
structure Mn (F:Fs) (k:Ok) (Sw X:Nat->Prop) (W:World):Prop where
 sw:∀ b,X b->¬ Sw b
 cells:∀ b,X b->∃ xs t z,W.heap[b]? = some (.cells xs t z)
 gl:∀ g,k.gl g=true->X g
 ex:X F.G
 G:F.G<W.heap.size
 jg:F.jg=true
 ct:Pb F X W.heap
structure After (F:Fs) (P:Program) (k:Ok) (Sw X:Nat->Prop) (W:World) (hL:Array Obj) (B:Bl) (W':World):Prop where
 hr:HR F (KK P k) 0 B hL W'.heap
 ext:Ext (ji X) B
 own:∀ a b,B a b->b<W'.heap.size/\¬ Sw b
 jg:F.jg=true
 sw:∀ b,Sw b->b<W'.heap.size
 fr:Ea X W W'
 new:∀ a b,B a b->X b\/W.heap.size<=b
noncomputable def iT (F:Fs) (X:Nat->Prop) (W:World) (T:Nat->Question->Nat) (d:Nat):World:=at_ W (jY F X W.heap) T d
variable {X:Nat->Prop}
theorem Mn.hr (M:Mn F k Sw X W):HR F (KK P k) 0 (ji X) (jY F X W.heap) W.heap:=HR.Yj M.cells M.G M.ct
theorem Mn.gb (M:Mn F k Sw X W) (hG:F.G=P.globals.size):GB F P k (ji X):=⟨fun g h=>⟨rfl,M.gl g h⟩,fun _ _=>⟨hG,rfl,M.ex⟩⟩
theorem Mn.lt (M:Mn F k Sw X W) {b:Nat} (h:X b):b<W.heap.size:=by
 obtain⟨xs,t,z,e⟩:=M.cells b h;exact (Array.getElem?_eq_some_iff.1 e).1
theorem Mn.cell (M:Mn F k Sw X W) {T:Nat->Question->Nat} {d:Nat} {p:Addr} {v:Value} (hX:X p.block) (hv:VR F (ji X) v v) (hc:W.cell? p=some v) (hct:¬ F.cut p.block):(iT F X W T d).cell? p=some v:=by
 obtain⟨xs,t,z,e⟩:=M.cells _ hX;have e2:(iT F X W T d).heap[p.block]? = some (.cells (xs.map (jn F X)) t z):=wE hX hct e;simp only[World.cell?,e] at hc;simp only[World.cell?,e2];split at hc
 ·cases hc
 ·rename_i hs;rw[if_neg hs];rw[Array.getElem?_map,hc];simp[bP hv]
theorem Mn.size {T:Nat->Question->Nat} {d:Nat}:(iT F X W T d).heap.size=W.heap.size:=vw
theorem After.val {hL:Array Obj} {B:Bl} {W':World} (A:After F P k Sw X W hL B W') {v v':Value} (hv:Pv F X v) (h:VR F B v v'):v'=v:=Pv.rA (A.hr.rA A.jg).2 hv h
def gG (h:Array Obj) (a:Addr):Option Value:=match h[a.block]? with
 | some (.cells c _ _)=>if a.spot.isSome then none else c[a.off]?
 | _=>none
theorem After.cell {hL:Array Obj} {B:Bl} {W':World} (A:After F P k Sw X W hL B W') {p:Addr} {v:Value} (hB:B p.block p.block) (hc:gG hL p=some v):∃ v',W'.cell? p=some v'/\VR F B v v':=by
 obtain⟨o,o',h1,h2,ho⟩:=A.hr.obj _ _ hB;simp only[gG,h1] at hc;simp only[World.cell?,h2];rcases ho with ho | ⟨_,ys,t,rfl,rfl,_⟩;rotate_left
 ·simp at hc
 cases ho with
 | cells t hv hz=>
  simp only at hc ⊢;split at hc
  ·cases hc
  ·rename_i hs;rw[if_neg hs];rcases hv.get? p.off with⟨e,_⟩|⟨u,u',e,e',hr⟩
   ·rw[e] at hc;cases hc
   ·rw[e] at hc;cases hc;exact⟨u',e',hr⟩
 | _=>cases hc
theorem After.Ip {hL:Array Obj} {B:Bl} {W':World} (M:Mn F k Sw X W) (A:After F P k Sw X W hL B W') {b:Nat} (hb:F.cut b):W'.heap[b]? = W.heap[b]?:=(A.hr.co b hb).2.trans (M.ct b hb).2.1
theorem After.kept {hL:Array Obj} {B:Bl} {W':World} (M:Mn F k Sw X W) (A:After F P k Sw X W hL B W') (hold:∀ b,b<W.heap.size->hL[b]? = (jY F X W.heap)[b]?) {p:Addr} {v:Value} (hX:X p.block) (hv:Pv F X v) (hc:W.cell? p=some v):W'.cell? p=some v:=by
 by_cases hct:F.cut p.block
 ·simpa only [World.cell?,A.Ip M hct] using hc
 have h1:gG hL p=some v:=by
  have:=M.cell (T:=fun _ _=>0) (d:=0) hX hv.self hc hct;unfold gG;rw[hold _ (M.lt hX)];exact this
 obtain⟨v',h2,h3⟩:=A.cell (A.ext _ _ ⟨rfl,hX⟩) h1;rw[h2,A.val hv h3]
theorem wG (M:Mn F k Sw X W):∀ b,X b->b<W.heap.size/\¬ Sw b:=fun b hb=>⟨M.lt hb,M.sw b hb⟩
theorem aM.call (b:Base F P k) (M:Mn F k Sw X W) {f:FuncId} {c:Frame} {cs:List Frame} {args:List Value} (hres:Gy P f) (hf:F.fn f) (ha:∀ v∈args,Self F X v) (Post:Value->Array Obj->Prop)
  (C:∀ T d,Calls P f args.toArray (iT F X W T d) fun e w'=>∃ v,e = .returned v/\Post v w'.heap)
  (hn:∀ v v' W' B hL,VR F B v v'->After F P k Sw X W hL B W'->Post v hL->aM P Q N Sw 0 W' (G (c.finish v') cs)):aM P Q N Sw 0 W (G (Frame.enter P f args.toArray .normal) (c::cs)):=by
 obtain⟨fn,r1,r2⟩:=hres;have hv:aH F (ji X) args.toArray args.toArray:=FQ ha;refine aM.Am (Ro:=z8) (O:=X) (S:=vX F P k 0 (ji X) (c::cs) fun fr h=>fr.fn=f/\fr.mode = .returning/\fr.defers = []/\∃ v,Conc.ResultsC P fn fr.tmps v/\Post v h) (fun d=>?_) (fun _ h=>h.elim) (wG M) ?_
 ·refine qj b.S (main:=true) (Ro:=z8) _ Ai (fun _=>trivial) (M.gb b.S.G) (fun a b h=>.inr (h.1 ▸ h.2)) (fun _ h=>h.elim) (fun _ _=>Nat.zero_le _) b.hin (wL:=W) (w:=W.at d) M.hr (CR b.S hf hv) rfl b.trap (fun fr h c hx e=>by rw[hx.2.1] at e;cases e) fun T d tail=>?_
  obtain⟨e,w',fr,⟨v,rfl,hp⟩,⟨N,hN⟩,hfn,l1,l2,_,Y0,l4,l5⟩:=C T d tail;rw[hfn,r1] at l4;cases l4;have hR:∃ v1,Conc.ResultsC P fn fr.tmps v1:=by
   rcases r2 with h | ⟨t,h⟩|⟨t,u,h⟩
   ·exact⟨_,Conc.resultsC_none h _⟩
   ·exact⟨_,Conc.resultsC_tmp h _⟩
   ·exact⟨_,Conc.resultsC_tmp2 h _⟩
  obtain⟨v1,hv1⟩:=hR;have:=(hv1 w').1;rw[l5] at this;injection this with this;subst this;exact⟨N,fr,w',hN,hfn,l1,l2,v,hv1,hp⟩
 ·rintro g' W' O' ⟨fL,fC,B,hL,rfl,e2,e3,e4,e5,f1,f2,f3,v,f4,f5⟩ hsw hO hnw hfr;have A:After F P k Sw X W hL B W':=⟨e3,e4,fun a b hb=>(e5 a b hb).elim (fun h=>⟨by have:=(e3.lt hb).2;exact this,M.sw _ (h.1 ▸ h.2)⟩) (hO b),M.jg,hsw,hfr,fun a b hb=>(e5 a b hb).elim (fun h=>.inl (h.1 ▸ h.2)) (hnw b)⟩;obtain⟨q1,q2,q3,q4,q5,q6,q7,q8,q9⟩:=e2;have dC:fC.defers = []:=by
   rw[f3] at q6;cases hx:fC.defers with
   | nil=>rfl
   | cons _ _=>rw[hx] at q6;cases q6
  have hm:fC.mode = .returning:=by
   rw[f2] at q7;generalize fC.mode=md at q7;cases md<;>first | rfl | cases q7
  have hfn:fC.fn=f:=by rw[<-q1];exact f1
  obtain⟨v1,v1',g1,g2,g3⟩:=OB (P:=P) (F:=F) (fn:=fn) r2 q4;have:v1=v:=by
   have a1:=(g1 W').1;have a2:=(f4 W').1;rw[a1] at a2;injection a2
  subst this;have k1:aU P true (aM P Q N Sw 0 W'):=eF;refine k1.step rfl rfl (fun w=>eX (v:=v1') hm dC (by exact q3) (by rw[hfn];exact r1) g2) (hn _ _ _ _ _ g3 A f5)
theorem Pg (ts:List Value):aH F (ji X) (ts.map (jn F X)).toArray ts.toArray:=⟨by simp,fun i h h'=>by simpa using Ci (F:=F) (Ro:=X) (ts[i]'(by simpa using h'))⟩
theorem aM.tail (b:Base F P k) (M:Mn F k Sw X W) {fr:Frame} {cs:List Frame} {ts:List Value} {c:Code} (hc:cK P k c=true) (hf:F.fk fr.fn) (hk:fr.kind = .normal) (PR:Act->Array Obj->Prop)
  (C:∀ T d,c.wp P (fun e a w=>a.defers = []/\e = .ret/\PR a w.heap) ⟨(ts.map (jn F X)).toArray,[]⟩ (iT F X W T d))
  (hn2:∀ aL aC todo W' B hL,aH F B aL.tmps aC.tmps->aC.defers = []->After F P k Sw X W hL B W'->PR aL hL->aM P Q N Sw 0 W' (G { fr.at aC todo with mode:=.returning } cs)):aM P Q N Sw 0 W (G (fr.at ⟨ts.toArray,[]⟩ [.code c]) cs):=by
 refine aM.Am (O:=X) (fun d=>Vu b.S (M.gb b.S.G) (fun a b h=>h.1 ▸ h.2) (fun _ _=>Nat.zero_le _) b.hin (wL:=W) (w:=W.at d) (M.hr (P:=P)) hc hf hk (Pg ts) rfl rfl PR b.trap C) (fun _ h=>h.elim) (wG M) ?_;rintro g' W' O' ⟨aL,aC,B,hL,h1,h2,h3,h4,h5,h6,h7⟩ hsw hO hnw hfr;have A:After F P k Sw X W hL B W':=⟨h4,h5,fun a b hb=>(h6 a b hb).elim (fun h=>⟨(h4.lt hb).2,M.sw _ (h.1 ▸ h.2)⟩) (hO b),M.jg,hsw,hfr,fun a b hb=>(h6 a b hb).elim (fun h=>.inl (h.1 ▸ h.2)) (hnw b)⟩;rcases h7 with⟨_,h7⟩|⟨todo,rfl,h7⟩
 ·exact h7.elim
 ·exact hn2 _ _ _ _ _ _ h1 h3 A h7
end
end Px
namespace Px
open Go Go.Conc
def nF:Fs:={ fn:=fun _=>False,G:=0,bt:=0 }
theorem Pv.up {F:Fs} {X:Nat->Prop} {v:Value} (h:Pv nF X v):Pv F X v:=by
 induction h with
 | bool b=>exact .bool b
 | int k n=>exact .int k n
 | string s=>exact .string s
 | bn=>exact .bn
 | ptr h=>exact .ptr h
 | bG n c=>exact .bG n c
 | sl n c h=>exact .sl n c h
 | sl0 a=>exact .sl0 a
 | func hf=>exact hf.elim
 | nilFunc=>exact .nilFunc
 | nilIface=>exact .nilIface
 | iface t _ ih=>exact .iface t ih
 | agg _ ih=>exact .agg ih
section
variable {F:Fs} {k:Ok} {P:Program} {Sw X Y D D':Nat->Prop} {W W' W1 W2:World} {hL:Array Obj} {B:Bl}
structure Kept (F:Fs) (X D:Nat->Prop) (W W':World):Prop where
 size:W.heap.size<=W'.heap.size
 cell:∀ p v,X p.block->Pv F X v->W.cell? p=some v->W'.cell? p=some v
 blk:∀ b c t z,X b->W.heap[b]? = some (.cells c t z)->∃ c' z',W'.heap[b]? = some (.cells c' t z')
 dead:∀ b,D b->W'.heap[b]? = W.heap[b]?
 env:W'.os=W.os/\W'.output=W.output
theorem Kept.refl:Kept F X D W W:=⟨Nat.le_refl _,fun _ _ _ _ h=>h,fun _ c _ z _ h=>⟨c,z,h⟩,fun _ _=>rfl,rfl,rfl⟩
structure qF (W:World) (Sw aG:Nat->Prop):Prop where
 new:∀ b,aG b->Sw b\/W.heap.size<=b
 old:∀ b,Sw b->aG b
theorem qF.refl:qF W Sw Sw:=⟨fun _ h=>.inl h,fun _ h=>h⟩
theorem Kept.trans (h1:Kept F X D W W1) (h2:Kept F Y D' W1 W2) (TP:∀ b,X b->Y b) (hD:∀ b,D b->D' b):Kept F X D W W2 where
 size:=Nat.le_trans h1.size h2.size
 cell:=fun p v hp hv hc=>h2.cell p v (TP _ hp) (hv.mono TP) (h1.cell p v hp hv hc)
 blk:=fun b c t z hb h=>by
  obtain⟨c1,z1,h⟩:=h1.blk b c t z hb h;exact h2.blk b c1 t z1 (TP _ hb) h
 dead:=fun b hb=>(h2.dead b (hD b hb)).trans (h1.dead b hb)
 env:=⟨h2.env.1.trans h1.env.1,h2.env.2.trans h1.env.2⟩
theorem Kept.same (hs:W.heap.size<=W'.heap.size) (h:∀ b,X b->W'.heap[b]? = W.heap[b]?) (hd:∀ b,D b->W'.heap[b]? = W.heap[b]?) (he:W'.os=W.os/\W'.output=W.output):Kept F X D W W' where
 size:=hs
 cell:=fun p v hp _ hc=>by simpa only [World.cell?,h _ hp] using hc
 blk:=fun b c t z hb e=>⟨c,z,(h b hb).trans e⟩
 dead:=hd
 env:=he
theorem Kept.all (K:Kept nF (fun b=>X b/\¬ False) D W W'):Kept nF X D W W':=⟨K.size,fun p v hp hv=>K.cell p v ⟨hp,id⟩ (hv.mono fun _ h=>⟨h,id⟩),fun b c t fr hb=>K.blk b c t fr ⟨hb,id⟩,K.dead,K.env⟩
def Lw (z:Nat) (Sw:Nat->Prop):Nat->Prop:=fun b=>b<z\/Sw b
theorem After.keeps (M:Mn F k Sw X W) (A:After F P k Sw X W hL B W') (hold:∀ b,b<W.heap.size->hL[b]? = (jY F X W.heap)[b]?) (hd:∀ b,D b->W'.heap[b]? = W.heap[b]?):Kept F X D W W' where
 size:=A.fr.size
 cell:=fun p v hp hv hc=>A.kept M hold hp hv hc
 blk:=fun b c t z hb e=>by
  by_cases hct:F.cut b
  ·exact⟨_,_,(A.Ip M hct).trans e⟩
  obtain⟨o,o',h1,h2,ho⟩:=A.hr.obj _ _ (A.ext _ _ ⟨rfl,hb⟩);replace ho:=ho.resolve_right fun h=>hct h.1
  rw[hold b (M.lt hb),wE hb hct e] at h1;cases h1;cases ho with
  | cells t hv hz=>exact⟨_,_,h2⟩
 dead:=hd
 env:=⟨A.fr.os,A.fr.output⟩
inductive Vd:Value->Prop
 | bool (b:Bool):Vd (.bool b)
 | int (k:IntKind) (n:Int):Vd (.int k n)
 | string (s:ByteArray):Vd (.string s)
 | ptr (a:Option Addr):Vd (.pointer a)
 | sl (a:Option Addr) (n c:Nat):Vd (.slice a n c)
 | nilIface:Vd .nilIface
 | iface {v:Value} (t:TypeId):Vd v->Vd (.iface t v)
inductive Hb:Value->Nat->Prop
 | ptr (a:Addr):Hb (.pointer (some a)) a.block
 | sl (a:Addr) (n c:Nat) (h:n≠0\/c≠0):Hb (.slice (some a) n c) a.block
 | iface {v:Value} {b:Nat} (t:TypeId):Hb v b->Hb (.iface t v) b
theorem After.addr (A:After F P k Sw X W hL B W') {a b:Addr} (h:AR F B a b):b=a/\B a.block a.block:=by
 have e:=(A.hr.rA A.jg).2 _ _ h.block;have h1:=h.block;rw[<-e] at h1;refine⟨?_,h1⟩;obtain⟨a1,a2,a3⟩:=a;obtain⟨b1,b2,b3⟩:=b;have:=h.off;have:=h.spot;simp_all
theorem After.vd (A:After F P k Sw X W hL B W') {v v':Value} (hv:Vd v) (h:VR F B v v'):v'=v/\∀ b,Hb v b->B b b:=by
 induction hv generalizing v' with
 | bool=>cases h;exact⟨rfl,fun b hb=>by cases hb⟩
 | int=>cases h;exact⟨rfl,fun b hb=>by cases hb⟩
 | string=>cases h;exact⟨rfl,fun b hb=>by cases hb⟩
 | ptr=>cases h with
  | bn=>exact⟨rfl,fun b hb=>by cases hb⟩
  | ptr ha=>
   obtain⟨rfl,h2⟩:=A.addr ha;exact⟨rfl,fun b hb=>by cases hb;exact h2⟩
 | sl=>cases h with
  | bG=>exact⟨rfl,fun b hb=>by cases hb⟩
  | sl0=>exact⟨rfl,fun b hb=>by cases hb with | sl _ _ _ h=>rcases h with h | h<;>exact absurd rfl h⟩
  | sl _ _ ha=>
   obtain⟨rfl,h2⟩:=A.addr ha;exact⟨rfl,fun b hb=>by cases hb;exact h2⟩
 | nilIface=>cases h;exact⟨rfl,fun b hb=>by cases hb⟩
 | iface t _ ih=>cases h with
  | iface _ h=>
   obtain⟨rfl,h2⟩:=ih h;exact⟨rfl,fun b hb=>by cases hb with | iface _ hb=>exact h2 b hb⟩
theorem After.at (A:After F P k Sw X W hL B W') {p:Addr} {v:Value} (hB:B p.block p.block) (hc:gG hL p=some v) (hv:Vd v):W'.cell? p=some v/\∀ b,Hb v b->B b b:=by
 obtain⟨v',h1,h2⟩:=A.cell hB hc;obtain⟨rfl,h3⟩:=A.vd hv h2;exact⟨h1,h3⟩
theorem After.rd (A:After F P k Sw X W hL B W') {b:Nat} (hB:B b b) (hc:∃ xs t z,hL[b]? = some (.cells xs t z)):b<W'.heap.size/\¬ Sw b/\∃ xs t z,W'.heap[b]? = some (.cells xs t z):=by
 obtain⟨o,o',h1,h2,ho⟩:=A.hr.obj _ _ hB;obtain⟨xs,t,z,e⟩:=hc;rw[h1] at e;cases e;rcases ho with ho | ⟨_,ys,t,_,rfl,_⟩;rotate_left
 ·exact⟨(A.own _ _ hB).1,(A.own _ _ hB).2,_,_,_,h2⟩
 cases ho with
 | cells t hv hz=>exact⟨(A.own _ _ hB).1,(A.own _ _ hB).2,_,_,_,h2⟩
theorem After.rest (M:Mn F k Sw X W) (A:After F P k Sw X W hL B W') (hcm:F.cm=true) (hold:∀ b,b<W.heap.size->hL[b]? = (jY F X W.heap)[b]?) {b:Nat} (hb:b<W.heap.size) (h:X b->¬ F.cut b->∃ xs t z,W.heap[b]? = some (.cells xs t z)/\∀ (i:Nat) (v:Value),xs[i]? = some v->Pv F X v):W'.heap[b]? = W.heap[b]?:=by
 by_cases hct:F.cut b
 ·exact A.Ip M hct
 by_cases hX:X b
 ·obtain⟨xs,t,z,e,hv⟩:=h hX hct;obtain⟨o,o',h1,h2,ho⟩:=A.hr.obj _ _ (A.ext _ _ ⟨rfl,hX⟩);replace ho:=ho.resolve_right fun h=>hct h.1
  rw[hold b (M.lt hX),wE hX hct e] at h1;cases h1;cases ho with
  | @cells xs' ys t z z' hvs hz=>
   have hzz:z=z':=by
    rcases hz with h | ⟨h,_⟩
    ·exact h
    ·rw[hcm] at h;cases h
   subst hzz;rw[h2,e];have:ys=xs:=by
    apply Array.ext_getElem?;intro i;rcases hvs.get? i with⟨e1,e2⟩|⟨u,u',e1,e2,hr⟩
    ·rw[e2];rw[Array.getElem?_map] at e1;cases hx:xs[i]? with
     | none=>rfl
     | some v=>rw[hx] at e1;cases e1
    ·rw[Array.getElem?_map] at e1;cases hx:xs[i]? with
     | none=>rw[hx] at e1;cases e1
     | some v=>
      rw[hx] at e1;have hp:=hv i v hx;have e3:jn F X v=u:=Option.some.inj e1;rw[bP hp.self] at e3;subst e3;rw[e2,A.val hp hr]
   rw[this]
 ·exact A.fr.old b hb hX
theorem ku (A:After F P k Sw X W hL B W') {aL aC:Array Value} (h:aH F B aL aC) {i:Nat} {v:Value} (e:aL[i]? = some v) (hv:Vd v):aC[i]? = some v/\∀ b,Hb v b->B b b:=by
 rcases h.get? i with⟨e1,_⟩|⟨x,x',e1,e2,hx⟩
 ·rw[e] at e1;cases e1
 ·rw[e] at e1;cases e1;obtain⟨rfl,hb⟩:=A.vd hv hx;exact⟨e2,hb⟩
theorem rZ (A:After F P k Sw X W hL B W') {aL aC:Array Value} (h:aH F B aL aC) {i:Nat} {v:Value} (e:aL[i]? = some v) (hv:Pv F X v):aC[i]? = some v:=by
 rcases h.get? i with⟨e1,_⟩|⟨x,x',e1,e2,hx⟩
 ·rw[e] at e1;cases e1
 ·rw[e] at e1;cases e1;rw[e2,A.val hv hx]
theorem After.box (A:After F P k Sw X W hL B W') {b:Nat} (hB:B b b) {k1 k2:IntKind} {x y:Int} {t:TypeId} (e:hL[b]? = some (.cells #[.int k1 x,.int k2 y] t (0,0))):W'.heap[b]? = some (.cells #[.int k1 x,.int k2 y] t (0,0)):=by
 obtain⟨o,o',h1,h2,ho⟩:=A.hr.obj _ _ hB;rw[e] at h1;cases h1;rcases ho with ho | ⟨_,ys,_,he,_⟩;rotate_left
 ·simp at he
 cases ho with
 | @cells _ ys t z z' hv hz=>
  have hz':z'=(0,0):=by
   rcases hz with h | ⟨_,h⟩
   ·exact h.symm
   ·cases h
  subst hz';rw[h2];have hs:ys.size=2:=hv.1.symm;have e0:=hv.2 0 (by simp) (by omega);have e1:=hv.2 1 (by simp) (by omega);have:ys=#[.int k1 x,.int k2 y]:=by
   apply Array.ext
   ·simp[hs]
   ·intro i h1 h3;match i,h3 with
    | 0,_=>
     generalize ys[0]=u at e0 ⊢;cases e0;rfl
    | 1,_=>
     generalize ys[1]=u at e1 ⊢;cases e1;rfl
  rw[this]
theorem xB {p:Addr} {v:Value} (h:gG hL p=some v):∃ xs t z,hL[p.block]? = some (.cells xs t z):=by
 unfold gG at h;split at h
 ·exact⟨_,_,_,by assumption⟩
 ·cases h
end
section
variable {P:Program} {m:Bool} {T:Goroutine->Prop} {b:Frame} {a:Act} {k:List Item} {cs:List Frame} {ops:Array Oper} {i:Nat} {rest:List Nat} {o:Oper} {f:FuncId} {fn:Func}
theorem aU.enter (c:aU P m T) {xs:Array Operand} {ats:Array TypeId} {cd:Code} {l:List Value} (hf:P.funcs[f]? = some fn) (hb:fn.body=some cd) (hm:(fn.name == "runtime.NumGoroutine")=false) (hn:T (G (Frame.enter P f l.toArray .normal) (b.at a (.inRegion ops (i::rest)::k)::cs)))
  (ho:ops[i]? = some o:=by (simp only[List.getElem?_toArray,List.getElem?_cons_zero,List.getElem?_cons_succ];rfl)) (hw:Region.wanted o (yielded ops a.tmps)=true:=by rfl) (hk:b.kind ≠ .early:=by decide) (hop:o.op = .call { callee:=.value (.func f),args:=xs,argTypes:=ats }:=by rfl)
  (hl:xs.map a.eval=l.toArray:=by (simp only[List.map_toArray,List.map_cons,List.map_nil,Go.Act.eval,Array.getD_eq_getD_getElem?,List.getElem?_toArray,List.getElem?_cons_zero,List.getElem?_cons_succ,Option.getD_some];rfl)) :
  T (G (b.at a (.inRegion ops (i::rest)::k)) cs):=by
 have hb':fn.body.isNone=false:=by rw[hb];rfl
 have e:∀ w,stepG P m (G (b.at a (.inRegion ops (i::rest)::k)) cs) w = .go (G (Frame.enter P f l.toArray .normal) (b.at a (.inRegion ops (i::rest)::k)::cs)) w:=fun w=>by
  rw[stepG_enter ho hw hk (run_call_body hop hf hm hb'),hl];unfold listed;rw[events_call_body hop hf hm hb',seen_none]
 exact c.step rfl rfl e hn
end
end Px
namespace Px
open Go Go.Conc
section
variable {F:Fs} {P:Program} {k:Ok} {N:Nat} {Q:Machine->Outcome->World->Trace->Prop} {Sw X:Nat->Prop} {W:World} {z:Nat}
open Classical in
noncomputable def nY (F:Fs) (X:Nat->Prop) (z:Nat) (h:Array Obj):Array Obj:=h.mapIdx fun b o=>if X b then (match o with | .cells xs t fr=>.cells (xs.map (jn F X)) t (if b<z then (0,xs.size) else fr) | o=>o) else o
theorem vF {h:Array Obj}:(nY F X z h).size=h.size:=by simp[nY]
theorem r9 {h:Array Obj} {b:Nat} {xs:Array Value} {t:TypeId} {fr:Nat×Nat} (hr:X b) (e:h[b]? = some (.cells xs t fr)):(nY F X z h)[b]? = some (.cells (xs.map (jn F X)) t (if b<z then (0,xs.size) else fr)):=by
 unfold nY;rw[Array.getElem?_mapIdx,e];simp[hr]
theorem HR.mix {h:Array Obj} {K:Cs} (hc:∀ b,X b->∃ xs t fr,h[b]? = some (.cells xs t fr)) (hG:F.G<h.size) (hcm:F.cm=false) (hct:∀ b,¬ F.cut b) (hz:z<=h.size):HR F K z (ji X) (nY F X z h) h where
 left:=by rintro a b b' ⟨rfl,_⟩ ⟨rfl,_⟩;rfl
 right:=by rintro a a' b ⟨rfl,_⟩ ⟨rfl,_⟩;rfl
 obj:=by
  rintro a b ⟨rfl,hr⟩;obtain⟨xs,t,fr,e⟩:=hc a hr;refine⟨_,_,r9 hr e,e,.inl (.cells t ⟨by simp,fun i h1 h2=>by rw[Array.getElem_map];exact Ci _⟩ ?_)⟩;split
  ·exact .inr ⟨hcm,by simp⟩
  ·exact .inl rfl
 ro:=by
  rintro a b ⟨rfl,hr⟩ hlt;obtain⟨xs,t,fr,e⟩:=hc a hr;exact⟨xs.map (jn F X),t,by rw[r9 hr e,if_pos hlt];simp⟩
 base:=hz
 lo:=by rw[vF];exact hG
 lo2:=hG
 rA:=fun _=>⟨vF,fun _ _ h=>h.1⟩
 co:=fun b hb=>absurd hb (hct b)
 mF:=fun _ b _ hb=>absurd hb (hct b)
theorem HR.Yl {K:Cs} {base:Nat} {B:Bl} {h h':Array Obj} (H:HR F K base B h h'):HR F K 0 B h h':={ H with ro:=fun _ b _ h=>absurd h (Nat.not_lt_zero b),base:=Nat.zero_le _ }
noncomputable def gH (F:Fs) (X:Nat->Prop) (z:Nat) (W:World) (T:Nat->Question->Nat) (d:Nat):World:=at_ W (nY F X z W.heap) T d
theorem Mn.Cn (M:Mn F k Sw X W) {T:Nat->Question->Nat} {d:Nat} {p:Addr} {v:Value} (hX:X p.block) (hv:VR F (ji X) v v) (hc:W.cell? p=some v):(gH F X z W T d).cell? p=some v:=by
 obtain⟨xs,t,fr,e⟩:=M.cells _ hX;have e2:(gH F X z W T d).heap[p.block]? = some (.cells (xs.map (jn F X)) t (if p.block<z then (0,xs.size) else fr)):=r9 hX e;simp only[World.cell?,e] at hc;simp only[World.cell?,e2];split at hc
 ·cases hc
 ·rename_i hs;rw[if_neg hs];rw[Array.getElem?_map,hc];simp[bP hv]
theorem Mn.Iq {T:Nat->Question->Nat} {d:Nat}:(gH F X z W T d).heap.size=W.heap.size:=vF
theorem Mn.Ym {T:Nat->Question->Nat} {d:Nat} {b:Nat} {xs:Array Value} {t:TypeId} {fr:Nat×Nat} (hX:X b) (hz:z<=b) (e:W.heap[b]? = some (.cells xs t fr)):(gH F X z W T d).heap[b]? = some (.cells (xs.map (jn F X)) t fr):=by
 have:=r9 (F:=F) (z:=z) hX e;rwa [if_neg (by omega)] at this
theorem After.TQ {hL:Array Obj} {B:Bl} {W':World} {D:Nat->Prop} (M:Mn F k Sw X W) (A:After F P k Sw X W hL B W') {E:Nat->Prop} (hold:∀ b,b<W.heap.size->¬ E b->hL[b]? = (nY F X z W.heap)[b]?) (hd:∀ b,D b->W'.heap[b]? = W.heap[b]?):Kept F (fun b=>X b/\¬ E b) D W W' where
 size:=A.fr.size
 cell:=fun p v WR hv hc=>by
  have hX:=WR.1;have hv:=hv.mono fun b (h:X b/\¬ E b)=>h.1
  have h1:gG hL p=some v:=by
   have:=M.Cn (z:=z) (T:=fun _ _=>0) (d:=0) hX hv.self hc;unfold gG;rw[hold _ (M.lt hX) WR.2];exact this
  obtain⟨v',h2,h3⟩:=A.cell (A.ext _ _ ⟨rfl,hX⟩) h1;rw[h2,A.val hv h3]
 blk:=fun b c t fr WS e=>by
  have hb:=WS.1;obtain⟨o,o',h1,h2,ho⟩:=A.hr.obj _ _ (A.ext _ _ ⟨rfl,hb⟩);rw[hold b (M.lt hb) WS.2,r9 hb e] at h1;cases h1;rcases ho with ho | ⟨_,ys,t',he,rfl,_⟩;rotate_left
  ·injection he with _ ht _;subst ht;exact⟨_,_,h2⟩
  cases ho with
  | cells t hv hz=>exact⟨_,_,h2⟩
 dead:=hd
 env:=⟨A.fr.os,A.fr.output⟩
theorem aM.Ir (b:Base F P k) (hcm:F.cm=false) (hct:∀ b,¬ F.cut b) (M:Mn F k Sw X W) (hz:z<=W.heap.size) {fr:Frame} {cs:List Frame} {ts:List Value} {c:Code} (hc:cK P k c=true) (hK:∃ x K,k.K = .code x::K) (hf:F.fk fr.fn) (hk:fr.kind = .normal) (PN PR:Act->Array Obj->Prop)
  (C:∀ T d,c.wp P (fun e a w=>a.defers = []/\((e = .normal/\PN a w.heap)\/(e = .ret/\PR a w.heap))) ⟨(ts.map (jn F X)).toArray,[]⟩ (gH F X z W T d))
  (hn1:∀ aL aC W' B hL,aH F B aL.tmps aC.tmps->aC.defers = []->After F P k Sw X W hL B W'->(∀ b,b<W.heap.size->X b->z<=b\/W'.heap[b]? = W.heap[b]?)->PN aL hL->aM P Q N Sw 0 W' (G (fr.at aC k.K) cs))
  (hn2:∀ aL aC todo W' B hL,aH F B aL.tmps aC.tmps->aC.defers = []->After F P k Sw X W hL B W'->(∀ b,b<W.heap.size->X b->z<=b\/W'.heap[b]? = W.heap[b]?)->PR aL hL->aM P Q N Sw 0 W' (G { fr.at aC todo with mode:=.returning } cs)):aM P Q N Sw 0 W (G (fr.at ⟨ts.toArray,[]⟩ (.code c::k.K)) cs):=by
 refine aM.Am (Ro:=fun b=>X b/\b<z) (O:=fun b=>X b/\z<=b) (S:=GA F P k z (ji X) fr cs PN PR) (fun d=>(GH b.S (main:=true) (Ro:=fun b=>X b/\b<z) (base:=z) (M.gb b.S.G) (fun a b h=>?_) (fun _ h=>h.2) (fun _ h=>h.2) b.hin (wL:=W) (w:=W.at d) (HR.mix M.cells M.G hcm hct hz) hc hK hf hk (Pg ts) rfl rfl PN PR Ai (fun _=>trivial) b.trap C).mono fun _ _ _ h=>CY hk h) (fun b h=>wG M b h.1) (fun b h=>wG M b h.1) ?_
 ·by_cases hb:b<z
  ·exact .inl ⟨h.1 ▸ h.2,hb⟩
  ·exact .inr ⟨h.1 ▸ h.2,Nat.le_of_not_lt hb⟩
 ·rintro g' W' O' ⟨aL,aC,B,hL,h1,h2,h3,h4,h5,h6,h7⟩ hsw hO hnw hfr;have A:After F P k Sw X W hL B W':=⟨h4.Yl,h5,fun a b hb=>(h6 a b hb).elim (fun h=>⟨(h4.lt hb).2,M.sw _ (h.1 ▸ h.2)⟩) (hO b),M.jg,hsw,⟨hfr.size,fun b hb hn=>hfr.old b hb fun h=>hn h.1,hfr.os,hfr.output⟩,fun a b hb=>(h6 a b hb).elim (fun h=>.inl (h.1 ▸ h.2)) fun h=>(hnw b h).imp (·.1) id⟩;have hold:∀ b,b<W.heap.size->X b->z<=b\/W'.heap[b]? = W.heap[b]?:=fun b hb hX=>by
   by_cases hbz:z<=b
   ·exact .inl hbz
   ·exact .inr (hfr.old b hb fun h=>hbz h.2)
  rcases h7 with⟨rfl,h7⟩|⟨todo,rfl,h7⟩
  ·exact hn1 _ _ _ _ _ h1 h3 A hold h7
  ·exact hn2 _ _ _ _ _ _ h1 h3 A hold h7
end
end Px
namespace Px
open Go Go.Conc
section
variable {P:Program} {Q:Machine->Outcome->World->Trace->Prop} {N:Nat} {Sw:Nat->Prop} {dm:Nat} {W:World} {g:Goroutine}
theorem Al.TT (hs:∀ b,Sw b->b<W.heap.size) (hr:g.status = .running):Al P Sw 0 #[g] W #[] g:=by
 refine⟨⟨Dk P Sw 0 1 W fun x _ _=>x=g,[.run true (fun x _ _=>x=g) g W fun _=>False],?_,rfl,rfl,rfl,rfl⟩,rfl,hr⟩;have no:∀ k b,¬ bD [.run true (fun x _ _=>x=g) g W fun _=>False] k b:=by
  rintro k b ⟨r,h1,h2⟩;match k,h1 with
  | 0,h1=>cases h1;exact h2
  | k+1,h1=>simp at h1
 have e0:∀ i:Nat,(#[]:Trace)[i]? = none:=fun i=>by simp
 constructor
 ·rfl
 ·refine⟨⟨fun k k' b h=>absurd h (no k b),fun k b h=>absurd h (no k b),fun k b h=>absurd h (no k b),fun b h=>h.elim,fun k b h=>absurd h (no k b),fun b h=>h.elim,hs⟩,⟨(fun i op x h=>by rw[e0] at h;cases h),fun k b _ h=>absurd h (no k b),fun k b _ h=>h.elim,fun i a b h=>?_,fun said h=>?_,(fun i op h=>by rw[e0] at h;cases h)⟩,fun j hj=>?_,fun a i h=>?_,fun i x h=>?_⟩
  ·obtain⟨op,h,_⟩:=touch_of h;rw[e0] at h;cases h
  ·obtain⟨i,j,_,⟨a,b,h,_⟩,_⟩:=h;obtain⟨op,h,_⟩:=touch_of h;rw[e0] at h;cases h
  ·have:Deaf #[] j=0:=ConcN.Deaf_absent fun i op h=>by rw[e0] at h;cases h
   rw[this];simp[Pl.D,Dk]
  ·simp[Trace.act?] at h
  ·obtain⟨op,h,_⟩:=touch_of h;rw[e0] at h;cases h
 ·intro h;exact absurd h (Nat.lt_irrefl _)
 ·intro h;exact absurd h (Nat.lt_irrefl _)
 ·intro h;exact absurd h (Nat.lt_irrefl _)
 ·exact fun _ _ _ _=>rfl
 ·exact⟨_,_,rfl,rfl,rfl,rfl,rfl,hr,.stop fun _ _=>rfl,.refl ..⟩
 ·intro j r x hj h;match j,h with
  | 0,_=>exact absurd rfl hj
  | j+1,h=>simp at h
 ·intro j i hi;cases hi
 ·intro j j' i hi;cases hi
 ·intro i hi;omega
 ·intro i hi;cases hi
 ·exact List.nodup_nil
 ·exact Nat.zero_le _
 ·intro h;exact absurd h (Nat.lt_irrefl _)
 ·intro g1 w1 O1 h;cases h
theorem QO (h:aM P Q 1 Sw 0 W g) (hs:∀ b,Sw b->b<W.heap.size) (hr:g.status = .running):Fin P Q (solo g W) #[]:=by
 rw[solo_eq_crowd];have hs':∀ b,Sw b->b<(W.at W.drawn).heap.size:=hs;exact h #[g] #[] W.drawn rfl (Al.TT hs' hr) none
theorem NG {Post:Value->World->Prop} {v:Value} (he:∀ w,stepG P true g w = .ended (.done v) w) (hp:∀ d,Post v (W.at d)):aM P (Conc.Good P Post) N Sw dm W g:=by
 intro gs t d hz A;refine A.sure fun gs' t' d1 A' hz' d2 sl=>?_
 exact A'.last (he _) (hp d2)
theorem Vv {fr:Frame} {fn:Func} {v:Value} {w:World} (hm:fr.mode = .returning) (hd:fr.defers = []) (hk:fr.kind = .normal) (hf:P.funcs[fr.fn]? = some fn) (hr:ResultsC P fn fr.tmps v) (hi:P.inits.idxOf? fr.fn=none):stepG P true (G fr []) w = .ended (.done v) w:=by
 rw[jh (by rw[hm];exact fun h=>by cases h)];have h1:=(hr w).1;have h2:=(hr w).2;simp[unwind,doReturn,hd,hm,hk,hf,h1,h2,hi,seen,GStep.after]
end
end Px
