import Derived.Test.YtnonoiafongllaaGreatDoorJ
import Derived.Conc.CompanyCalls
open Nat (add_comm le_refl le_trans lt_of_lt_of_le)
namespace Px
open Go
variable {F:Fs} {P:Program} {k:Ok}
structure Keep(Ro O:Nat->Prop)(w w₁:World):Prop where
 size:w.heap.size<=w₁.heap.size
 same:∀b,Ro b\/O b->w₁.heap[b]? = w.heap[b]?
 env:w₁.os=w.os/\w₁.output=w.output
theorem Keep.refl(Ro O:Nat->Prop)(w:World):Keep Ro O w w:=⟨le_refl _,λ_ _=>rfl,rfl,rfl⟩
theorem Keep.trans{Ro O:Nat->Prop}{w e H:World}(h:Keep Ro O w e)(h':Keep Ro O e H):Keep Ro O w H:=⟨le_trans h.size h'.size,λb I=>(h'.same b I).trans (h.same b I),h'.env.1.trans h.env.1,h'.env.2.trans h.env.2⟩
def grow(O:Nat->Prop)(w w':World):Nat->Prop:=λb=>O b\/(w.heap.size<=b/\b<w'.heap.size)
inductive ng (Ro O:Nat->Prop):Event->Prop
 | read {a:Addr}:Ro a.block\/O a.block->ng Ro O ⟨.cell a,false,false⟩
 | write {a:Addr}:O a.block->ng Ro O ⟨.cell a,true,false⟩
 | sO {r:Nat}:Ro r\/O r->ng Ro O ⟨.obj r,false,false⟩
 | o7 {r:Nat}:O r->ng Ro O ⟨.obj r,true,false⟩
 | room:ng Ro O ⟨.mark .noRoom,false,true⟩
 | ext (f:Nat):ng Ro O ⟨.mark (.extern f),false,true⟩
structure nT(Ro O:Nat->Prop)(w w':World)(es:Array Event):Prop where
 size:w.heap.size<=w'.heap.size
 old:∀b,b<w.heap.size->¬ O b->w'.heap[b]? = w.heap[b]?
 tape:w'.tape=w.tape
 os:w'.os=w.os
 output:w'.output=w.output
 evs:∀e,e∈es->ng Ro (grow O w w') e
inductive Runs (P:Program) (main:Bool) (Ro:Nat->Prop) (Stop:Goroutine->World->(Nat->Prop)->Prop):Goroutine->World->(Nat->Prop)->Prop
 | stop {g:Goroutine} {w:World} {O:Nat->Prop}:(∀w₁,Keep Ro O w w₁->Stop g w₁ O)->Runs P main Ro Stop g w O
 | step {g:Goroutine} {w:World} {O:Nat->Prop}:(∀w₁,Keep Ro O w w₁->∃g' w' es,stepG P main g w₁ = .go g' w' es/\g'.status = .running/\nT Ro O w₁ w' es) ->
   (∀w₁ g' w' es,Keep Ro O w w₁->stepG P main g w₁ = .go g' w' es->Runs P main Ro Stop g' w' (grow O w₁ w'))->Runs P main Ro Stop g w O
theorem Runs.mono{m:Bool}{Ro:Nat->Prop}{S S':Goroutine->World->(Nat->Prop)->Prop}{g:Goroutine}{w:World}{O:Nat->Prop}(h:Runs P m Ro S g w O)(H:∀g w O,S g w O->S' g w O):Runs P m Ro S' g w O:=by
 induction h with
 | stop h=>exact .stop λe hk=>H _ _ _ (h e hk)
 | step h1 _ ih=>exact .step h1 ih
def QK(P:Program)(f:FuncId):Prop:=∃fn,P.funcs[f]? = some fn/\(fn.results=#[]\/(∃t,fn.results=#[.tmp t])\/∃t u,fn.results=#[.tmp t,.tmp u])
def QL(F:Fs)(P:Program)(k:Ok)(base:Nat)(B0:Bl)(f:FuncId)(cs0:List Frame)(Post:Value->Array Obj->Prop):Goroutine->World->(Nat->Prop)->Prop:=λg w O=>
 ∃fr fn v v' B hL,g=Conc.G fr cs0/\fr.mode = .returning/\fr.defers = []/\fr.kind = .normal/\fr.fn=f/\P.funcs[f]? = some fn/\Conc.ResultsC P fn fr.tmps v'/\VR F B v v'/\HR F (KK P k) base B hL w.heap/\Ext B0 B /\
  (∀a b,B a b->B0 a b\/O b)/\Post v hL
structure Way(P:Program)(main:Bool)(Ro:Nat->Prop)(Stop:Goroutine->World->(Nat->Prop)->Prop)(Z:Prop)(R:(Nat->Prop)->World->World->Prop)(RR:Goroutine->World->(Nat->Prop)->Prop):Prop where
 keep:∀ {O w w₁},R O w w₁->Keep Ro O w w₁
 size:Z->∀ {O w w₁},R O w w₁->w₁.heap.size=w.heap.size
 stop:∀ {g w O},(∀w₁,R O w w₁->Stop g w₁ O)->RR g w O
 step:∀ {g w O},(∀w₁,R O w w₁->∃g' w' es,stepG P main g w₁ = .go g' w' es/\g'.status = .running/\nT Ro O w₁ w' es)->(∀w₁ g' w' es,R O w w₁->stepG P main g w₁ = .go g' w' es->RR g' w' (grow O w₁ w'))->RR g w O
theorem ZO{P:Program}{main:Bool}{Ro:Nat->Prop}{e:Goroutine->World->(Nat->Prop)->Prop}:Way P main Ro e False (Keep Ro) (Runs P main Ro e):=⟨id,False.elim,.stop,.step⟩
structure Sg where
 fL:Frame
 eG:List Frame
 hL:Array Obj
 fC:Frame
 iF:List Frame
 wC:World
 O:Nat->Prop
 B:Bl
section
variable (F:Fs) (P:Program) (k:Ok) (base:Nat) (B0:Bl) (cs0:List Frame) (O0:Nat->Prop) (RR:Goroutine->World->(Nat->Prop)->Prop)
structure Rel(s:Sg):Prop where
 st:jP F P k s.B (s.fL::s.eG) (s.fC::s.iF)
 hr:HR F (KK P k) base s.B s.hL s.wC.heap
 ext:Ext B0 s.B
 own:∀a b,s.B a b->B0 a b\/(s.O b/\base<=b)
 low:∀b,s.O b->base<=b
 old:∀b,O0 b->s.O b
 no:¬ RR (Conc.G s.fC (s.iF++cs0)) s.wC s.O
def Link(wL:World)(s s':Sg)(n:Nat)(T:Nat->Question->Nat)(d:Nat):Prop:=
 ∀tail T' d',Ag T' d' T d n->(stepG P true (Conc.G s.fL (s.eG++tail)) (at_ wL s.hL T' d')).bare = .go (Conc.G s'.fL (s'.eG++tail)) (at_ wL s'.hL T' (d'+n))
def Falls(wL:World)(s:Sg)(n:Nat)(T:Nat->Question->Nat)(d:Nat):Prop:=
 ∀tail T' d',Ag T' d' T d n->QI F P k base wL T' tail (stepG P true (Conc.G s.fL (s.eG++tail)) (at_ wL s.hL T' d'))
end
theorem HR.keep{base:Nat}{B:Bl}{hL:Array Obj}{w e:World}{Ro O:Nat->Prop}(H:HR F (KK P k) base B hL w.heap)(hk:Keep Ro O w e)(hz:F.kF=true->e.heap.size=w.heap.size)(J:∀a b,B a b->Ro b\/O b):HR F (KK P k) base B hL e.heap where
 left:=H.left
 right:=H.right
 obj:=λa b h=>by
  obtain⟨o,o',h1,h2,h3⟩:=H.obj a b h;exact⟨o,o',h1,by rw[hk.same b (J a b h)];exact h2,h3⟩
 ro:=H.ro
 base:=le_trans H.base hk.size
 lo:=H.lo
 lo2:=lt_of_lt_of_le H.lo2 hk.size
 yT:=λM=>by rw[hz M];exact H.yT M
 co:=λb I=>⟨(H.co b I).1,(hk.same b (J b b (H.co b I).1)).trans (H.co b I).2⟩
 qH:=λa b h I=>by
  obtain⟨ys,t,U,Z,e3⟩:=H.qH a b h I;exact⟨ys,t,U,(hk.same b (J a b h)).trans Z,e3⟩
theorem aev(S:Setup F P k){base:Nat}{main:Bool}{B0:Bl}{cs0:List Frame}{Ro O0:Nat->Prop}{Stop:Goroutine->World->(Nat->Prop)->Prop}{R:(Nat->Prop)->World->World->Prop}{RR:Goroutine->World->(Nat->Prop)->Prop}{Z:Prop}(W:Way P main Ro Stop Z R RR)(hZ:F.kF=true->Z)(Ú:GB F P k B0)(fI:∀a b,B0 a b->Ro b\/O0 b)(η:∀b,Ro b->b<base)
  {wL:World} {s:Sg} (h:Rel F P k base B0 cs0 O0 RR s) (ϝ:¬ AtEnd s.fL s.eG):∃n T d,(∃s',Rel F P k base B0 cs0 O0 RR s'/\Link P wL s s' n T d)\/Falls F P k base wL s n T d:=by
 have hB:∀a b,s.B a b->Ro b\/s.O b:=λa b M=>(h.own a b M).elim (λh0=>(fI a b h0).imp id (h.old b)) λh=>.inr h.1
 apply Classical.byContradiction;intro Ā;apply h.no;have key:∀H,R s.O s.wC H->∃nS kJ ql lM B' U I n es,stepG P main (Conc.G s.fC (s.iF++cs0)) H = .go (Conc.G ql (lM++cs0)) (at_ H I H.tape (H.drawn+n)) es/\jP F P k B' (nS::kJ) (ql::lM)/\Ext s.B B'/\HR F (KK P k) base B' U I /\
   Fr base s.B B' H.heap I/\jm base B' es/\(∀tail T d,Ag T d H.tape H.drawn n->(stepG P true (Conc.G s.fL (s.eG++tail)) (at_ wL s.hL T d)).bare = .go (Conc.G nS (kJ++tail)) (at_ wL U T (d+n))):=by
  intro H hk;obtain⟨n,hn|hn⟩:=aeu S (Ú.mono h.ext) h.st ϝ (m:=main) (cs0:=cs0) (wL:=wL) (h.hr.keep (W.keep hk) (λhi=>W.size (hZ hi) hk) hB)
  ·obtain⟨nS,kJ,ql,lM,B',U,I,es,e1,e2,e3,e4,e5,e6,e7⟩:=hn;exact⟨nS,kJ,ql,lM,B',U,I,n,es,e1,e2,e3,e4,e5,e6,e7⟩
  ·exact (Ā ⟨n,H.tape,H.drawn,.inr hn⟩).elim
 refine W.step (λH hk=>?_) λH g' w' es hk hg=>?_
 ·obtain⟨nS,kJ,ql,lM,B',U,I,n,es,e1,e2,e3,e4,e5,e6,e7⟩:=key H hk;refine⟨_,_,es,e1,rfl,e5.size,λb M hO=>e5.old b M ?_,rfl,rfl,rfl,λe he=>?_⟩
  ·by_cases Ñ:b<base
   ·exact .inl Ñ
   ·refine .inr λ⟨a,ha⟩=>?_
    rcases hB a b ha with J|J
    ·exact Ñ (η b J)
    ·exact hO J
  ·have hin:∀b,(∃x,B' x b)->Ro b\/grow s.O H (at_ H I H.tape (H.drawn+n)) b:=λb ⟨x,hx⟩=>by
    rcases e5.fresh x b hx with J|J
    ·exact (hB x b J).imp id .inl
    ·exact .inr (.inr ⟨J,(e4.lt hx).2⟩)
   have hin2:∀b,(∃x,B' x b)->base<=b->grow s.O H (at_ H I H.tape (H.drawn+n)) b:=λb M Ñ=>(hin b M).resolve_left λJ=>by have:=η b J;omega
   cases e6 e he with
   | read h=>exact .read (hin _ h)
   | write h M=>exact .write (hin2 _ h M)
   | sO h=>exact .sO (hin _ h)
   | o7 h M=>exact .o7 (hin2 _ h M)
   | room=>exact .room
   | ext f=>exact .ext f
 ·obtain⟨nS,kJ,ql,lM,B',U,I,n,es2,e1,e2,e3,e4,e5,e6,e7⟩:=key H hk;rw[e1] at hg;cases hg;apply Classical.byContradiction;intro Ņ;refine Ā ⟨n,H.tape,H.drawn,.inl ⟨⟨nS,kJ,U,ql,lM,at_ H I H.tape (H.drawn+n),grow s.O H (at_ H I H.tape (H.drawn+n)),B'⟩,⟨e2,e4,h.ext.trans e3,λa b M=>?_,λb M=>?_,λb M=>.inl (h.old b M),Ņ⟩,e7⟩⟩
  ·rcases e5.fresh a b M with J|J
   ·exact (h.own a b J).imp id λh2=>⟨.inl h2.1,h2.2⟩
   ·exact .inr ⟨.inr ⟨J,(e4.lt M).2⟩,le_trans (h.hr.keep (W.keep hk) (λhi=>W.size (hZ hi) hk) hB).base J⟩
  ·rcases M with J|J
   ·exact h.low b J
   ·exact le_trans (h.hr.keep (W.keep hk) (λhi=>W.size (hZ hi) hk) hB).base J.1
end Px
namespace Px
open Go
variable {F:Fs} {P:Program} {k:Ok}
theorem EU{I H:Frame}{cs e:List Frame}{w w':World}(h:lone I cs w=lone H e w'):I=H/\cs=e/\w=w':=by
 unfold lone at h;injection h with h1 h2 h3;simp only[Array.mk.injEq,List.cons.injEq,and_true] at h2;injection h2 with a b;exact⟨a,b,h1⟩
theorem vU{m:Machine}:runN P 1 m=match step P m with | .next m=>.next m|e=>e:=by
 simp only[runN];cases step P m<;>rfl
def pos(c:Nat->Nat):Nat->Nat
 | 0=>0
 | n+1=>pos c n+c n
theorem LA(c:Nat->Nat){n m:Nat}(h:n<=m):pos c n<=pos c m:=by
 induction h with
 | refl=>exact le_refl _
 | step _ ih=>exact le_trans ih (Nat.le_add_right _ _)
theorem WB{c:Nat->Nat}{n m p:Nat}(h:pos c n<=p/\p<pos c (n+1))(h':pos c m<=p/\p<pos c (m+1)):n=m:=by
 apply Classical.byContradiction;intro e;rcases Nat.lt_or_gt_of_ne e with hl|hl
 ·have:=LA c (show n+1<=m from hl);omega
 ·have:=LA c (show m+1<=n from hl);omega
theorem Yn{B:Bl}{fn:Func}(h:fn.results=#[]\/(∃t,fn.results=#[.tmp t])\/∃t u,fn.results=#[.tmp t,.tmp u]){H e:Array Value}(I:aX F B H e):∃v J,Conc.ResultsC P fn H v/\Conc.ResultsC P fn e J/\VR F B v J:=by
 rcases h with h|⟨t,h⟩|⟨t,u,h⟩
 ·exact⟨_,_,Conc.resultsC_none h H,Conc.resultsC_none h e,nP⟩
 ·exact⟨_,_,Conc.resultsC_tmp h H,Conc.resultsC_tmp h e,I.getD t nP⟩
 ·exact⟨_,_,Conc.resultsC_tmp2 h H,Conc.resultsC_tmp2 h e,((aX.nil.push (I.getD t nP)).push (I.getD u nP)).tuple⟩
theorem ZP{f:Frame}{w:World}(e:f.mode = .returning)(H:f.defers = [])(hk:f.kind = .normal){fn:Func}(I:P.funcs[f.fn]? = some fn)(M:P.inits.idxOf? f.fn=none):∃o w',(stepG P true (Conc.G f []) w).bare = .ended o w':=by
 rw[lY (by rw[e];exact λh=>by cases h)];generalize J:(results fn f.tmps).runT P w #[]=g;obtain⟨r,es⟩:=g;cases r with
 | ok v w'=>exact⟨.done v,w',by simp only[unwind,H,e,I,J,bare_after,doReturn,hk,M,Bool.not_true,Bool.false_eq_true,if_false];rfl⟩
 | halt h w'=>
  cases h with
  | stuck s=>exact⟨.stuck s (f.pos P),w',by simp only[unwind,H,e,I,J,bare_after];rfl⟩
  | _=>exact⟨.stuck "return: the result variables cannot be read" (f.pos P),w',by simp only[unwind,H,e,I,J,bare_after];rfl⟩
theorem WC{f:Frame}{w:World}{c:List PanicEntry}(H:f.mode = .panicking c)(e:f.defers = [])(hc:f.catches P=true):∃o w',(unwind P true f [] none w).bare = .ended o w':=by
 unfold unwind;simp only[e,H,hc,if_true,GStep.bare];exact⟨_,_,rfl⟩
theorem ZQ{f:Frame}{cs:List Frame}{w:World}{c:List PanicEntry}(J:f.mode = .panicking c)(e:f.defers = []\/∃r H,f.defers = { target:=.collected r,args:=#[] }::H)(U:cs ≠ []){g:Goroutine}{w':World}(h:(unwind P true f cs none w).bare = .go g w'):∃c,g.frame.mode = .panicking c:=by
 rcases e with e|⟨r,H,e⟩
 ·cases cs with
  | nil=>exact absurd rfl U
  | cons x xs=>
   simp only[unwind,e,J] at h;split at h
   ·cases h
   ·simp only[GStep.bare] at h;cases h;exact qL _ _
 ·generalize I:(Instr.takeDeferred r).runT P w #[]=z at *;obtain⟨M,Z⟩:=z;cases M with
  | ok calls w2=>
   simp only[unwind,e,I,GStep.bare] at h;cases h;exact⟨c,J⟩
  | halt x w2=>
   simp only[unwind,e,I,GStep.bare] at h;cases h
theorem Jm(S:Setup F P k){base:Nat}{e:Frame}(t2:e.defers = [])(t3:∀l,(e.raise l).catches P=true):∀(N:Nat) {B:Bl} {I fC:Frame} {Z iF:List Frame} {hL hC:Array Obj} {wL:World} {T:Nat->Question->Nat} {d:Nat} {c:List PanicEntry},
  jP F P k B (I::Z) (fC::iF)->HR F (KK P k) base B hL hC->I.mode = .panicking c->∀ {f:Frame} {w':World},runN P N (lone I (Z ++ [e]) (at_ wL hL T d)) = .next (lone f [e] w')->∃c,f.mode = .panicking c:=by
 intro N;induction N using Nat.strongRecOn with
 | ind N ih=>
  intro B I fC Z iF hL hC wL T d c hS H hm f w' h;cases N with
  | zero=>
   injection h with h;obtain⟨rfl,_,_⟩:=EU h;exact⟨c,hm⟩
  | succ N=>
   have Ŀ:I.mode ≠ .run:=by rw[hm];exact λh=>by cases h
   rw[add_comm,runN_add,vU] at h;have ś:=hS.top;have hdf:I.defers = []\/∃r ds,I.defers = { target:=.collected r,args:=#[] }::ds:=by
    have:=ś.defers;generalize I.defers=l at this ⊢;generalize fC.defers=l' at this;cases this with
    | nil=>exact .inl rfl
    | cons hd _=>cases hd;exact .inr ⟨_,_,rfl⟩
   by_cases hE:AtEnd I Z
   ·obtain⟨ϡ,hds,_⟩:=hE;obtain⟨Lx,b1⟩:=S.Wt ś.ok;subst ϡ;have Ä:(stepG P true (Conc.G I ([] ++ [e])) (at_ wL hL T d)).bare = .go (Conc.G (e.raise c) []) (at_ wL hL T d):=by
     rw[lY Ŀ];simp[unwind,hds,hm,Frame.catches,b1,GStep.bare,Conc.G]
    rw[step_lone_go Ä] at h;dsimp only at h;obtain⟨ch2,m1,m2⟩:∃c',(e.raise c).mode = .panicking c'/\(e.raise c).defers = []:=by
     unfold Frame.raise;split
     ·exact⟨_,rfl,t2⟩
     ·exact⟨_,rfl,t2⟩
    have Ą:∃o w2,(stepG P true (Conc.G (e.raise c) []) (at_ wL hL T d)).bare = .ended o w2:=by
     rw[lY (by rw[m1];exact λh=>by cases h)];exact WC m1 m2 (t3 c)
    obtain⟨o,w2,Ą⟩:=Ą;cases N with
    | zero=>
     injection h with h;have:=(EU h).2.1;cases this
    | succ N=>
     rw[add_comm,runN_add,vU,step_lone_ended Ą] at h;cases h
   ·have go:∀ {U:Bl} {nS ql:Frame} {kJ lM:List Frame} {J M:Array Obj} {d':Nat},(stepG P true (Conc.G I (Z ++ [e])) (at_ wL hL T d)).bare = .go (Conc.G nS (kJ ++ [e])) (at_ wL J T d')->jP F P k U (nS::kJ) (ql::lM)->HR F (KK P k) base U J M->∃c,f.mode = .panicking c:=by
     intro U nS ql kJ lM J M d' g1 g2 g3;have g1':=g1;rw[lY Ŀ] at g1;obtain⟨c',hc'⟩:=ZQ hm hdf eO g1;rw[step_lone_go g1'] at h;exact ih N bB g2 g3 hc' h
    obtain⟨n,⟨nS,kJ,ql,lM,U,J,M,es,e1,e2,e3,e4,e5,e6,e7⟩|hf⟩:=OY S (cs0:=[]) hS Ŀ hE (m:=true) (wL:=wL) (wC:=at_ wL hC T d) H
    ·exact go (e7 [e] T d λ_ _=>rfl) e2 e4
    ·rcases hf [e] T d λ_ _=>rfl with⟨o,w2,g⟩|⟨U,nS,kJ,ql,lM,J,M,d',g1,g2,g3,_⟩
     ·rw[step_lone_ended g] at h;cases h
     ·exact go g1 g2 g3
open Classical
noncomputable def glue(c:Nat->Nat)(T:Nat->Nat->Question->Nat)(d:Nat->Nat):Nat->Question->Nat:=λp=>
 if h:∃n,pos c n<=p/\p<pos c (n+1) then T h.choose (d h.choose+(p-pos c h.choose)) else λ_=>0
theorem ZR(c:Nat->Nat)(T:Nat->Nat->Question->Nat)(d:Nat->Nat)(n:Nat):Ag (glue c T d) (pos c n) (T n) (d n) (c n):=by
 intro i e;have h:∃m,pos c m<=pos c n+i/\pos c n+i<pos c (m+1):=⟨n,Nat.le_add_right _ _,by simp only[pos];omega⟩;have he:=WB h.choose_spec ⟨Nat.le_add_right _ _,by simp only[pos];omega⟩;unfold glue;rw[dif_pos h,he];congr 1;omega
def Dm(F:Fs)(P:Program)(k:Ok)(base:Nat)(B0:Bl)(cs0:List Frame)(St:Frame->Array Obj->Prop):Goroutine->World->(Nat->Prop)->Prop:=λg w O=>
 ∃fL fC B hL,g=Conc.G fC cs0/\FR F P k B true fL fC/\HR F (KK P k) base B hL w.heap/\Ext B0 B/\(∀a b,B a b->B0 a b\/O b)/\St fL hL
theorem xD(S:Setup F P k){base:Nat}{main:Bool}{B0:Bl}{cs0:List Frame}{Ro O0:Nat->Prop}(St:Frame->Array Obj->Prop){Z:Prop}{R:(Nat->Prop)->World->World->Prop}{RR:Goroutine->World->(Nat->Prop)->Prop}(W:Way P main Ro (Dm F P k base B0 cs0 St) Z R RR)(hZ:F.kF=true->Z)(Ú:GB F P k B0)(fI:∀a b,B0 a b->Ro b\/O0 b)(η:∀b,Ro b->b<base)(ç:∀b,O0 b->base<=b)
  (hin:∀f,F.fk f->P.inits.idxOf? f=none) {wL w:World} {ā:Array Obj} (H:HR F (KK P k) base B0 ā w.heap) {f0 Jo:Frame} (ĥ:FR F P k B0 true f0 Jo) (ù:f0.roundOf=none)
  (trap:∃U:Frame,P.funcs[U.fn]? = none/\U.defers = []/\∀l,(U.raise l).catches P=true) (hSt:∀U h c,St U h->U.mode ≠ .panicking c)
  (C:∀T d tail,∃N U w',runN P N (lone f0 tail (at_ wL ā T d)) = .next (lone U tail w')/\St U w'.heap) :
  RR (Conc.G Jo cs0) w O0:=by
 apply Classical.byContradiction;intro Ā;let X:={ s:Sg // Rel F P k base B0 cs0 O0 RR s };let s0:X:=⟨⟨f0,[],ā,Jo,[],w,O0,B0⟩,⟨.bot ĥ ù,H,Ext.refl _,λa b h=>.inl h,ç,λ_ h=>h,Ā⟩⟩;have ag8:∀s:X,¬ (s.1.eG = []/\St s.1.fL s.1.hL):=by
  rintro⟨s,hR⟩ ⟨J,h2⟩;have Ϗ:=hR.st;dsimp only at J h2;rw[J] at Ϗ;have hcC:s.iF = []:=by
   generalize s.iF=c at Ϗ;cases Ϗ with
   | bot=>rfl
   | cons _ ht=>cases ht
  apply hR.no;rw[hcC,List.nil_append];exact W.stop λw₁ hk=>⟨s.fL,s.fC,s.B,s.hL,rfl,Ϗ.top,hR.hr.keep (W.keep hk) (λhi=>W.size (hZ hi) hk) (λa b hb=>(hR.own a b hb).elim (λh0=>(fI a b h0).imp id (hR.old b)) λh=>.inr h.1),hR.ext,λa b hb=>(hR.own a b hb).imp id (·.1),h2⟩
 let e:X->Prop:=λs=>¬ AtEnd s.1.fL s.1.eG/\∃n T d,∃s':X,Link P wL s.1 s'.1 n T d
 have hD:∀s:X,∃(s':X) (n:Nat) (T:Nat->Question->Nat) (d:Nat),(e s->Link P wL s.1 s'.1 n T d)/\(¬ AtEnd s.1.fL s.1.eG->¬ e s->Falls F P k base wL s.1 n T d):=by
  intro s;by_cases hg:e s
  ·obtain⟨_,n,T,d,s',hl⟩:=id hg;exact⟨s',n,T,d,λ_=>hl,λ_ h=>absurd hg h⟩
  ·by_cases hE:AtEnd s.1.fL s.1.eG
   ·exact⟨s,0,λ_ _=>0,0,λh=>absurd h hg,λh=>absurd hE h⟩
   ·obtain⟨n,T,d,⟨s',hs',hl⟩|aew⟩:=aev S W hZ Ú fI η (wL:=wL) s.2 hE
    ·exact absurd ⟨hE,n,T,d,⟨s',hs'⟩,hl⟩ hg
    ·exact⟨s,n,T,d,λh=>absurd h hg,λ_ _=>aew⟩
 let nx:X->X:=λs=>(hD s).choose
 let I:Nat->X:=λn=>Nat.rec s0 (λ_ s=>nx s) n
 let cn:Nat->Nat:=λn=>(hD (I n)).choose_spec.choose
 let tp:Nat->Nat->Question->Nat:=λn=>(hD (I n)).choose_spec.choose_spec.choose
 let dn:Nat->Nat:=λn=>(hD (I n)).choose_spec.choose_spec.choose_spec.choose
 have hD2:∀n,(e (I n)->Link P wL (I n).1 (I (n+1)).1 (cn n) (tp n) (dn n))/\(¬ AtEnd (I n).1.fL (I n).1.eG->¬ e (I n)->Falls F P k base wL (I n).1 (cn n) (tp n) (dn n)):=λn=>
  (hD (I n)).choose_spec.choose_spec.choose_spec.choose_spec
 let TS:=glue cn tp dn;have hAg:=ZR cn tp dn;have way:∀n,(∀i,i<n->e (I i))->∀tail,runN P n (lone f0 tail (at_ wL ā TS 0)) = .next (lone (I n).1.fL ((I n).1.eG++tail) (at_ wL (I n).1.hL TS (pos cn n))):=by
  intro n;induction n with
  | zero=>intro _ tail;rfl
  | succ n ih=>
   intro hg tail;rw[runN_add,ih (λi hi=>hg i bB) tail];show runN P 1 _=_;rw[vU,step_lone_go ((hD2 n).1 (hg n bB) tail TS (pos cn n) (hAg n))];rfl
 have Yo:∀n,(∀i,i<n->e (I i))->∀ {tail U w'},runN P n (lone f0 tail (at_ wL ā TS 0)) = .next (lone U tail w')->St U w'.heap->False:=by
  intro n hg tail U w' h hl;rw[way n hg tail] at h;injection h with h;obtain⟨J,h2,h3⟩:=EU h;have ϡ:(I n).1.eG = []:=by
   have:=congrArg List.length h2;simp only[List.length_append] at this;exact List.length_eq_zero_iff.1 bB
  refine ag8 (I n) ⟨ϡ,?_⟩;rw[J];have:w'.heap=(I n).1.hL:=by rw[<-h3];rfl
  rw[<-this];exact hl
 have over:∀ {n N:Nat} {tail:List Frame} {m:Machine} {o:Outcome} {w1:World},runN P n (lone f0 tail (at_ wL ā TS 0)) = .ended o w1->runN P N (lone f0 tail (at_ wL ā TS 0)) = .next m->N<n:=by
  intro n N tail m o w1 J h2;apply Classical.byContradiction;intro ύ;have:N=n+(N-n):=bB
  rw[this,runN_add,J] at h2;cases h2
 by_cases Ϝ:∀n,e (I n)
 ·obtain⟨N,U,w',J,h2⟩:=C TS 0 [];exact Yo N (λi _=>Ϝ i) J h2
 ·obtain⟨M,ũ,ύ⟩:∃M,¬ e (I M)/\∀i,i<M->e (I i):=by
   obtain⟨n,hn⟩:=Classical.not_forall.1 Ϝ;induction n using Nat.strongRecOn with
   | ind n ih=>
    by_cases h:∃i,i<n/\¬ e (I i)
    ·obtain⟨i,hi,hg⟩:=h;exact ih i hi hg
    ·exact⟨n,hn,λi hi=>Classical.byContradiction λhg=>h ⟨i,hi,hg⟩⟩
  have early:∀ {N:Nat} {tail U w'},runN P N (lone f0 tail (at_ wL ā TS 0)) = .next (lone U tail w')->St U w'.heap->M<N:=by
   intro N tail U w' J h2;apply Classical.byContradiction;intro hl;exact Yo N (λi hi=>ύ i bB) J h2
  by_cases hE:AtEnd (I M).1.fL (I M).1.eG
  ·have hR:=(I M).2;obtain⟨ϡ,hds,hmd⟩:=hE;have ś:=hR.st.top;obtain⟨Lx,b1⟩:=S.Wt ś.ok;cases hm:(I M).1.fL.mode with
   | run=>exact hmd hm
   | returning=>
    obtain⟨N,U,w',J,h2⟩:=C TS 0 [];have é:=early J h2;obtain⟨o,w2,Đ⟩:=ZP (w:=at_ wL (I M).1.hL TS (pos cn M)) hm hds ś.kd b1 (hin _ ś.ok);have Ă:runN P (M+1) (lone f0 [] (at_ wL ā TS 0)) = .ended o w2:=by
     rw[runN_add,way M ύ []];show runN P 1 _=_;rw[ϡ,vU,List.append_nil,step_lone_ended Đ]
    have:=over Ă J;omega
   | panicking chain=>
    obtain⟨tr,t1,t2,t3⟩:=trap;obtain⟨N,U,w',J,h2⟩:=C TS 0 [tr];have é:=early J h2;rw[show N=M+(N-M) by omega,runN_add,way M ύ [tr]] at J;obtain⟨c,hc⟩:=Jm S t2 t3 (N-M) hR.st hR.hr hm J;exact hSt _ _ c h2 hc
  ·obtain⟨tr,t1,t2,t3⟩:=trap;obtain⟨N,U,w',J,h2⟩:=C TS 0 [tr];have é:=early J h2;rw[show N=M+(1+(N-M-1)) by omega,runN_add,way M ύ [tr]] at J;dsimp only at J;rw[runN_add,vU] at J;rcases (hD2 M).2 hE ũ [tr] TS (pos cn M) (hAg M) with⟨o,w2,Đ⟩|⟨B',nS,kJ,ql,lM,hL',hC',d',g1,g2,g3,c,g4⟩
   ·rw[step_lone_ended Đ] at J;cases J
   ·rw[step_lone_go g1] at J;obtain⟨c,hc⟩:=Jm S t2 t3 _ g2 g3 g4 J;exact hSt _ _ c h2 hc
theorem TP(S:Setup F P k)(U:F.kF=false){base:Nat}{main:Bool}{B0:Bl}{cs0:List Frame}{Ro O0:Nat->Prop}(Ú:GB F P k B0)(fI:∀a b,B0 a b->Ro b\/O0 b)(η:∀b,Ro b->b<base)(ç:∀b,O0 b->base<=b)
  (Z:∀f,F.fk f->P.inits.idxOf? f=none) {wL w:World} {ā:Array Obj} (H:HR F (KK P k) base B0 ā w.heap) {f0 Jo:Frame} (ĥ:FR F P k B0 true f0 Jo) (ù:f0.roundOf=none) (J:Frame->Array Obj->Prop)
  (I:∃e:Frame,P.funcs[e.fn]? = none/\e.defers = []/\∀l,(e.raise l).catches P=true) (M:∀e h c,J e h->e.mode ≠ .panicking c)
  (C:∀T d tail,∃N e w',runN P N (lone f0 tail (at_ wL ā T d)) = .next (lone e tail w')/\J e w'.heap) :
  Runs P main Ro (Dm F P k base B0 cs0 J) (Conc.G Jo cs0) w O0:=
 xD S J ZO (λhi=>by rw[U] at hi;cases hi) Ú fI η ç Z H ĥ ù I M C
theorem transfer(S:Setup F P k)(hid:F.kF=false){base:Nat}{main:Bool}{B0:Bl}{f:FuncId}{cs0:List Frame}{Ro O0:Nat->Prop}(Ú:GB F P k B0)(fI:∀a b,B0 a b->Ro b\/O0 b)(η:∀b,Ro b->b<base)(ç:∀b,O0 b->base<=b)
  (hin:∀f,F.fk f->P.inits.idxOf? f=none) (Ē:QK P f) (hf:F.fn f) {wL w:World} {ā:Array Obj} (H:HR F (KK P k) base B0 ā w.heap) {xs ys:Array Value} (M:aX F B0 xs ys) (J:Value->Array Obj->Prop)
  (Z:∃I:Frame,P.funcs[I.fn]? = none/\I.defers = []/\∀l,(I.raise l).catches P=true)
  (C:∀T d,Calls P f xs (at_ wL ā T d) λe w'=>∃v,e = .returned v/\J v w'.heap) :
  Runs P main Ro (QL F P k base B0 f cs0 J) (Conc.G (Frame.enter P f ys .normal) cs0) w O0:=by
 obtain⟨fn,r1,r2⟩:=Ē;refine (TP S hid (wL:=wL) (cs0:=cs0) Ú fI η ç hin H (Lr S hf M) rfl (λI h=>I.fn=f/\I.mode = .returning/\I.defers = []/\∃v,Conc.ResultsC P fn I.tmps v/\J v h) Z (λI h c M e=>by rw[M.2.1] at e;cases e) λT d tail=>?_).mono λg w O ⟨fL,U,B,hL,e1,e2,e3,e4,e5,f1,f2,f3,v,f4,f5⟩=>?_
 ·obtain⟨e,w',I,⟨v,rfl,hp⟩,⟨N,hN⟩,ē,l1,l2,_,fn2,l4,l5⟩:=C T d tail;rw[ē,r1] at l4;cases l4;have hR:∃v1,Conc.ResultsC P fn I.tmps v1:=by
   rcases r2 with h|⟨t,h⟩|⟨t,u,h⟩
   ·exact⟨_,Conc.resultsC_none h _⟩
   ·exact⟨_,Conc.resultsC_tmp h _⟩
   ·exact⟨_,Conc.resultsC_tmp2 h _⟩
  obtain⟨v1,Ŝ⟩:=hR;have:=(Ŝ w').1;rw[l5] at this;injection this with this;subst this;exact⟨N,I,w',hN,ē,l1,l2,v,Ŝ,hp⟩
 ·obtain⟨q1,q2,q3,q4,q5,q6,q7,q8,q9⟩:=e2;have dC:U.defers = []:=by
   rw[f3] at q6;cases M:U.defers with
   | nil=>rfl
   | cons _ _=>rw[M] at q6;cases q6
  have mC:U.mode = .returning:=by
   rw[f2] at q7;cases M:U.mode<;>first|rfl|(rw[M] at q7;cases q7)
  obtain⟨v1,v',g1,g2,g3⟩:=Yn (P:=P) r2 q4;have hvv:v1=v:=by
   have h1:=(g1 w).1;rw[(f4 w).1] at h1;injection h1 with h1;exact h1.symm
  subst hvv;exact⟨U,fn,v1,v',B,hL,e1,mC,dC,q3,by rw[<-q1,f1],r1,g2,g3,e3,e4,e5,f5⟩
end Px
namespace Px
open Go
variable {F:Fs} {P:Program} {k:Ok}
def Ky(F:Fs)(P:Program)(k:Ok)(base:Nat)(B0:Bl)(b:Frame)(cs0:List Frame)(PN PR:Act->Array Obj->Prop):Goroutine->World->(Nat->Prop)->Prop:=λg w O=>
 ∃aL aC B hL,aX F B aL.tmps aC.tmps/\aL.defers = []/\aC.defers = []/\HR F (KK P k) base B hL w.heap/\Ext B0 B/\(∀a b,B a b->B0 a b\/O b) /\
  ((g=Conc.G (b.at aC k.K) cs0/\PN aL hL)\/∃todo,g=Conc.G { b.at aC todo with mode:=.returning } cs0/\PR aL hL)
def StW(b:Frame)(PN PR:Act->Array Obj->Prop):Frame->Array Obj->Prop:=λfr h=>fr.fn=b.fn/\fr.kind=b.kind/\fr.roundOf=none/\fr.defers = []/\((fr.mode = .run/\fr.todo = [.code (.refuse default)]/\PN ⟨fr.tmps,[]⟩ h)\/(fr.mode = .returning/\PR ⟨fr.tmps,[]⟩ h))
theorem EW{base:Nat}{B0:Bl}{cs0:List Frame}{b:Frame}{PN PR:Act->Array Obj->Prop}(ķ:b.kind = .normal){g:Goroutine}{w:World}{O:Nat->Prop}(h:Dm F P k base B0 cs0 (StW b PN PR) g w O):Ky F P k base B0 b cs0 PN PR g w O:=by
 obtain⟨fL,e,B,hL,U,e2,e3,e4,e5,f1,f2,f3,f4,I⟩:=h;obtain⟨q1,q2,q3,q4,M,q6,H,q8,q9⟩:=e2;have dC:e.defers = []:=by
  rw[f4] at q6;cases hx:e.defers with
  | nil=>rfl
  | cons _ _=>rw[hx] at q6;cases q6
 have rC:e.roundOf=none:=by
  rw[f3] at q8;cases hx:e.roundOf with
  | none=>rfl
  | some _=>rw[hx] at q8;cases q8
 refine⟨⟨fL.tmps,[]⟩,⟨e.tmps,[]⟩,B,hL,q4,rfl,rfl,e3,e4,e5,?_⟩;obtain⟨fn,ts,td,ds,J,kd,ro⟩:=e;dsimp only at q1 q3 dC rC U;subst dC rC;rcases I with⟨I,f6,f7⟩|⟨I,f6⟩
 ·refine .inl ⟨?_,f7⟩;have Z:J = .run:=by
   rw[I] at H;dsimp only at H;cases J<;>first|rfl|cases H
  have htd:td=k.K:=by
   rw[f6] at M;dsimp only at M;generalize hk:k.K=KL at M;cases M with
   | cons h _=>cases h with|code h=>simp[KK,dR] at h
   | stop=>first|rfl|exact hk.symm|exact hk
  rw[U,Z,htd];simp only[Frame.at,<-q1,f1,q3,ķ]
 ·refine .inr ⟨td,?_,f6⟩;have Z:J = .returning:=by
   rw[I] at H;dsimp only at H;cases J<;>first|rfl|cases H
  rw[U,Z];simp only[Frame.at,<-q1,f1,q3,ķ]
theorem Gb(S:Setup F P k){base:Nat}{main:Bool}{B0:Bl}{cs0:List Frame}{Ro O0:Nat->Prop}(Ú:GB F P k B0)(fI:∀a b,B0 a b->Ro b\/O0 b)(η:∀b,Ro b->b<base)(ç:∀b,O0 b->base<=b)
  (hin:∀f,F.fk f->P.inits.idxOf? f=none) {wL w:World} {ā:Array Obj} (H:HR F (KK P k) base B0 ā w.heap) {b:Frame} {a a':Act} {c:Code} (hc:dR P k c=true) (hK:∃x K,k.K = .code x::K) (hb:F.fk b.fn) (ķ:b.kind = .normal)
  (ht:aX F B0 a.tmps a'.tmps) (hd:a.defers = []) (hd':a'.defers = []) (PN PR:Act->Array Obj->Prop) {Z:Prop} {R:(Nat->Prop)->World->World->Prop} {RR:Goroutine->World->(Nat->Prop)->Prop} (W:Way P main Ro (Dm F P k base B0 cs0 (StW b PN PR)) Z R RR) (hZ:F.kF=true->Z)
  (trap:∃fr:Frame,P.funcs[fr.fn]? = none/\fr.defers = []/\∀l,(fr.raise l).catches P=true)
  (C:∀T d,c.wp P (λe a w=>a.defers = []/\((e = .normal/\PN a w.heap)\/(e = .ret/\PR a w.heap))) a (at_ wL ā T d)) :
  RR (Conc.G (b.at a' (.code c::k.K)) cs0) w O0:=by
 exact xD S (main:=main) (cs0:=cs0) _ W hZ Ú fI η ç hin H (f0:=b.at a [.code c,.code (.refuse default)]) (Jo:=b.at a' (.code c::k.K)) ⟨rfl,ķ,ķ,ht,.cons (.code hc) (.stop rfl ⟨_,rfl⟩ hK),by rw[show (b.at a _).defers=a.defers from rfl,show (b.at a' _).defers=a'.defers from rfl,hd,hd'];exact .nil,.run,.none,hb⟩ rfl
  trap (λfr h c hx e=>by
   obtain⟨_,_,_,_,⟨hm,_⟩|⟨hm,_⟩⟩:=hx<;>rw[hm] at e<;>cases e) λT d tail=>by
   obtain⟨e,J,M,⟨I,U⟩,φ⟩:=C T d b [.code (.refuse default)] tail;have ea:J=⟨J.tmps,[]⟩:=by cases J;simp only at I;rw[I]
   rcases U with⟨rfl,U⟩|⟨rfl,U⟩
   ·obtain⟨N,hN⟩:=φ;exact⟨N,_,M,hN,rfl,rfl,rfl,I,.inl ⟨rfl,rfl,by rw[ea] at U;exact U⟩⟩
   ·obtain⟨todo,N,hN⟩:=φ;exact⟨N,_,M,hN,rfl,rfl,rfl,I,.inr ⟨rfl,by rw[ea] at U;exact U⟩⟩
