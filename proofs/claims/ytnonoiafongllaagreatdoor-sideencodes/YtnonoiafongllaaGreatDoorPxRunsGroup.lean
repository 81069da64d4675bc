import Derived.Test.YtnonoiafongllaaGreatDoorPxFrameGroup
import Derived.Conc.CompanyCalls
namespace Px
open Go
variable {F:Fs} {P:Program} {k:Ok}
structure Keep (Ro O:Nat->Prop) (w w₁:World):Prop where
 size:w.heap.size<=w₁.heap.size
 same:∀ b,Ro b\/O b->w₁.heap[b]? = w.heap[b]?
 env:w₁.os=w.os/\w₁.output=w.output
theorem Keep.refl (Ro O:Nat->Prop) (w:World):Keep Ro O w w:=⟨Nat.le_refl _,fun _ _=>rfl,rfl,rfl⟩
theorem Keep.trans {Ro O:Nat->Prop} {w w₁ w₂:World} (h:Keep Ro O w w₁) (h':Keep Ro O w₁ w₂):Keep Ro O w w₂:=⟨Nat.le_trans h.size h'.size,fun b hb=>(h'.same b hb).trans (h.same b hb),h'.env.1.trans h.env.1,h'.env.2.trans h.env.2⟩
def grow (O:Nat->Prop) (w w':World):Nat->Prop:=fun b=>O b\/(w.heap.size<=b/\b<w'.heap.size)
inductive jE (Ro O:Nat->Prop):Event->Prop
 | read {a:Addr}:Ro a.block\/O a.block->jE Ro O ⟨.cell a,false,false⟩
 | write {a:Addr}:O a.block->jE Ro O ⟨.cell a,true,false⟩
 | ng {r:Nat}:Ro r\/O r->jE Ro O ⟨.obj r,false,false⟩
 | kI {r:Nat}:O r->jE Ro O ⟨.obj r,true,false⟩
 | room:jE Ro O ⟨.mark .noRoom,false,true⟩
 | ext (f:Nat):jE Ro O ⟨.mark (.extern f),false,true⟩
structure jU (Ro O:Nat->Prop) (w w':World) (es:Array Event):Prop where
 size:w.heap.size<=w'.heap.size
 old:∀ b,b<w.heap.size->¬ O b->w'.heap[b]? = w.heap[b]?
 tape:w'.tape=w.tape
 os:w'.os=w.os
 output:w'.output=w.output
 evs:∀ e,e∈es->jE Ro (grow O w w') e
inductive Runs (P:Program) (main:Bool) (Ro:Nat->Prop) (Stop:Goroutine->World->(Nat->Prop)->Prop):Goroutine->World->(Nat->Prop)->Prop
 | stop {g:Goroutine} {w:World} {O:Nat->Prop}:(∀ w₁,Keep Ro O w w₁->Stop g w₁ O)->Runs P main Ro Stop g w O
 | step {g:Goroutine} {w:World} {O:Nat->Prop}:(∀ w₁,Keep Ro O w w₁->∃ g' w' es,stepG P main g w₁ = .go g' w' es/\g'.status = .running/\jU Ro O w₁ w' es) ->
   (∀ w₁ g' w' es,Keep Ro O w w₁->stepG P main g w₁ = .go g' w' es->Runs P main Ro Stop g' w' (grow O w₁ w'))->Runs P main Ro Stop g w O
theorem Runs.mono {m:Bool} {Ro:Nat->Prop} {S S':Goroutine->World->(Nat->Prop)->Prop} {g:Goroutine} {w:World} {O:Nat->Prop} (h:Runs P m Ro S g w O) (hs:∀ g w O,S g w O->S' g w O):Runs P m Ro S' g w O:=by
 induction h with
 | stop h=>exact .stop fun w₁ hk=>hs _ _ _ (h w₁ hk)
 | step h1 _ ih=>exact .step h1 ih
def Gy (P:Program) (f:FuncId):Prop:=∃ fn,P.funcs[f]? = some fn/\(fn.results=#[]\/(∃ t,fn.results=#[.tmp t])\/∃ t u,fn.results=#[.tmp t,.tmp u])
def Gz (F:Fs) (P:Program) (k:Ok) (base:Nat) (B0:Bl) (f:FuncId) (cs0:List Frame) (Post:Value->Array Obj->Prop):Goroutine->World->(Nat->Prop)->Prop:=fun g w O=>
 ∃ fr fn v v' B hL,g=Conc.G fr cs0/\fr.mode = .returning/\fr.defers = []/\fr.kind = .normal/\fr.fn=f/\P.funcs[f]? = some fn/\Conc.ResultsC P fn fr.tmps v'/\VR F B v v'/\HR F (KK P k) base B hL w.heap/\Ext B0 B /\
  (∀ a b,B a b->B0 a b\/O b)/\Post v hL
structure Way (P:Program) (main:Bool) (Ro:Nat->Prop) (Stop:Goroutine->World->(Nat->Prop)->Prop) (Z:Prop) (R:(Nat->Prop)->World->World->Prop) (RR:Goroutine->World->(Nat->Prop)->Prop):Prop where
 keep:∀ {O w w₁},R O w w₁->Keep Ro O w w₁
 size:Z->∀ {O w w₁},R O w w₁->w₁.heap.size=w.heap.size
 stop:∀ {g w O},(∀ w₁,R O w w₁->Stop g w₁ O)->RR g w O
 step:∀ {g w O},(∀ w₁,R O w w₁->∃ g' w' es,stepG P main g w₁ = .go g' w' es/\g'.status = .running/\jU Ro O w₁ w' es)->(∀ w₁ g' w' es,R O w w₁->stepG P main g w₁ = .go g' w' es->RR g' w' (grow O w₁ w'))->RR g w O
theorem Qf {P:Program} {main:Bool} {Ro:Nat->Prop} {Stop:Goroutine->World->(Nat->Prop)->Prop}:Way P main Ro Stop False (Keep Ro) (Runs P main Ro Stop):=⟨id,False.elim,.stop,.step⟩
structure Sg where
 fL:Frame
 bK:List Frame
 hL:Array Obj
 fC:Frame
 eu:List Frame
 wC:World
 O:Nat->Prop
 B:Bl
section
variable (F:Fs) (P:Program) (k:Ok) (base:Nat) (B0:Bl) (cs0:List Frame) (O0:Nat->Prop) (RR:Goroutine->World->(Nat->Prop)->Prop)
structure Rel (s:Sg):Prop where
 st:gJ F P k s.B (s.fL::s.bK) (s.fC::s.eu)
 hr:HR F (KK P k) base s.B s.hL s.wC.heap
 ext:Ext B0 s.B
 own:∀ a b,s.B a b->B0 a b\/(s.O b/\base<=b)
 low:∀ b,s.O b->base<=b
 old:∀ b,O0 b->s.O b
 no:¬ RR (Conc.G s.fC (s.eu++cs0)) s.wC s.O
def Link (wL:World) (s s':Sg) (n:Nat) (T:Nat->Question->Nat) (d:Nat):Prop:=
 ∀ tail T' d',Ag T' d' T d n->(stepG P true (Conc.G s.fL (s.bK++tail)) (at_ wL s.hL T' d')).bare = .go (Conc.G s'.fL (s'.bK++tail)) (at_ wL s'.hL T' (d'+n))
def Falls (wL:World) (s:Sg) (n:Nat) (T:Nat->Question->Nat) (d:Nat):Prop:=
 ∀ tail T' d',Ag T' d' T d n->Gw F P k base wL T' tail (stepG P true (Conc.G s.fL (s.bK++tail)) (at_ wL s.hL T' d'))
end
theorem HR.keep {base:Nat} {B:Bl} {hL:Array Obj} {w w₁:World} {Ro O:Nat->Prop} (H:HR F (KK P k) base B hL w.heap) (hk:Keep Ro O w w₁) (hz:F.jg=true->w₁.heap.size=w.heap.size) (hB:∀ a b,B a b->Ro b\/O b):HR F (KK P k) base B hL w₁.heap where
 left:=H.left
 right:=H.right
 obj:=fun a b h=>by
  obtain⟨o,o',h1,h2,h3⟩:=H.obj a b h;exact⟨o,o',h1,by rw[hk.same b (hB a b h)];exact h2,h3⟩
 ro:=H.ro
 base:=Nat.le_trans H.base hk.size
 lo:=H.lo
 lo2:=Nat.lt_of_lt_of_le H.lo2 hk.size
 rA:=fun hi=>by rw[hz hi];exact H.rA hi
 co:=fun b hb=>⟨(H.co b hb).1,(hk.same b (hB b b (H.co b hb).1)).trans (H.co b hb).2⟩
 mF:=fun a b h hb=>by
  obtain⟨ys,t,e1,e2,e3⟩:=H.mF a b h hb;exact⟨ys,t,e1,(hk.same b (hB a b h)).trans e2,e3⟩
theorem U2 (S:Setup F P k) {base:Nat} {main:Bool} {B0:Bl} {cs0:List Frame} {Ro O0:Nat->Prop} {Stop:Goroutine->World->(Nat->Prop)->Prop} {R:(Nat->Prop)->World->World->Prop} {RR:Goroutine->World->(Nat->Prop)->Prop} {Z:Prop} (W:Way P main Ro Stop Z R RR) (hZ:F.jg=true->Z) (hgl:GB F P k B0) (dx:∀ a b,B0 a b->Ro b\/O0 b) (hRb:∀ b,Ro b->b<base)
  {wL:World} {s:Sg} (h:Rel F P k base B0 cs0 O0 RR s) (hne:¬ AtEnd s.fL s.bK):∃ n T d,(∃ s',Rel F P k base B0 cs0 O0 RR s'/\Link P wL s s' n T d)\/Falls F P k base wL s n T d:=by
 have hB:∀ a b,s.B a b->Ro b\/s.O b:=fun a b hb=>(h.own a b hb).elim (fun h0=>(dx a b h0).imp id (h.old b)) fun h=>.inr h.1
 apply Classical.byContradiction;intro hno;apply h.no;have key:∀ w₁,R s.O s.wC w₁->∃ jT iD lq iZ B' hL' hC' n es,stepG P main (Conc.G s.fC (s.eu++cs0)) w₁ = .go (Conc.G lq (iZ++cs0)) (at_ w₁ hC' w₁.tape (w₁.drawn+n)) es/\gJ F P k B' (jT::iD) (lq::iZ)/\Ext s.B B'/\HR F (KK P k) base B' hL' hC' /\
   Fr base s.B B' w₁.heap hC'/\fH base B' es/\(∀ tail T d,Ag T d w₁.tape w₁.drawn n->(stepG P true (Conc.G s.fL (s.bK++tail)) (at_ wL s.hL T d)).bare = .go (Conc.G jT (iD++tail)) (at_ wL hL' T (d+n))):=by
  intro w₁ hk;obtain⟨n,hn | hn⟩:=U1 S (hgl.mono h.ext) h.st hne (m:=main) (cs0:=cs0) (wL:=wL) (h.hr.keep (W.keep hk) (fun hi=>W.size (hZ hi) hk) hB)
  ·obtain⟨jT,iD,lq,iZ,B',hL',hC',es,e1,e2,e3,e4,e5,e6,e7⟩:=hn;exact⟨jT,iD,lq,iZ,B',hL',hC',n,es,e1,e2,e3,e4,e5,e6,e7⟩
  ·exact (hno ⟨n,w₁.tape,w₁.drawn,.inr hn⟩).elim
 refine W.step (fun w₁ hk=>?_) fun w₁ g' w' es hk hg=>?_
 ·obtain⟨jT,iD,lq,iZ,B',hL',hC',n,es,e1,e2,e3,e4,e5,e6,e7⟩:=key w₁ hk;refine⟨_,_,es,e1,rfl,e5.size,fun b hb hO=>e5.old b hb ?_,rfl,rfl,rfl,fun e he=>?_⟩
  ·by_cases hbb:b<base
   ·exact .inl hbb
   ·refine .inr fun ⟨a,ha⟩=>?_
    rcases hB a b ha with h1 | h1
    ·exact hbb (hRb b h1)
    ·exact hO h1
  ·have hin:∀ b,(∃ x,B' x b)->Ro b\/grow s.O w₁ (at_ w₁ hC' w₁.tape (w₁.drawn+n)) b:=fun b ⟨x,hx⟩=>by
    rcases e5.fresh x b hx with h1 | h1
    ·exact (hB x b h1).imp id .inl
    ·exact .inr (.inr ⟨h1,(e4.lt hx).2⟩)
   have hin2:∀ b,(∃ x,B' x b)->base<=b->grow s.O w₁ (at_ w₁ hC' w₁.tape (w₁.drawn+n)) b:=fun b hb hbb=>(hin b hb).resolve_left fun h1=>by have:=hRb b h1;omega
   cases e6 e he with
   | read h=>exact .read (hin _ h)
   | write h hb=>exact .write (hin2 _ h hb)
   | ng h=>exact .ng (hin _ h)
   | kI h hb=>exact .kI (hin2 _ h hb)
   | room=>exact .room
   | ext f=>exact .ext f
 ·obtain⟨jT,iD,lq,iZ,B',hL',hC',n,es2,e1,e2,e3,e4,e5,e6,e7⟩:=key w₁ hk;rw[e1] at hg;cases hg;apply Classical.byContradiction;intro hnr;refine hno ⟨n,w₁.tape,w₁.drawn,.inl ⟨⟨jT,iD,hL',lq,iZ,at_ w₁ hC' w₁.tape (w₁.drawn+n),grow s.O w₁ (at_ w₁ hC' w₁.tape (w₁.drawn+n)),B'⟩,⟨e2,e4,h.ext.trans e3,fun a b hb=>?_,fun b hb=>?_,fun b hb=>.inl (h.old b hb),hnr⟩,e7⟩⟩
  ·rcases e5.fresh a b hb with h1 | h1
   ·exact (h.own a b h1).imp id fun h2=>⟨.inl h2.1,h2.2⟩
   ·exact .inr ⟨.inr ⟨h1,(e4.lt hb).2⟩,Nat.le_trans (h.hr.keep (W.keep hk) (fun hi=>W.size (hZ hi) hk) hB).base h1⟩
  ·rcases hb with h1 | h1
   ·exact h.low b h1
   ·exact Nat.le_trans (h.hr.keep (W.keep hk) (fun hi=>W.size (hZ hi) hk) hB).base h1.1
end Px
namespace Px
open Go
variable {F:Fs} {P:Program} {k:Ok}
theorem xK {fr fr':Frame} {cs cs':List Frame} {w w':World} (h:lone fr cs w=lone fr' cs' w'):fr=fr'/\cs=cs'/\w=w':=by
 unfold lone at h;injection h with h1 h2 h3;simp only[Array.mk.injEq,List.cons.injEq,and_true] at h2;injection h2 with a b;exact⟨a,b,h1⟩
theorem pE {m:Machine}:runN P 1 m=match step P m with | .next m=>.next m | e=>e:=by
 simp only[runN];cases step P m<;>rfl
def pos (c:Nat->Nat):Nat->Nat
 | 0=>0
 | n+1=>pos c n+c n
theorem CX (c:Nat->Nat) {n m:Nat} (h:n<=m):pos c n<=pos c m:=by
 induction h with
 | refl=>exact Nat.le_refl _
 | step _ ih=>exact Nat.le_trans ih (Nat.le_add_right _ _)
theorem MH {c:Nat->Nat} {n m p:Nat} (h:pos c n<=p/\p<pos c (n+1)) (h':pos c m<=p/\p<pos c (m+1)):n=m:=by
 apply Classical.byContradiction;intro hne;rcases Nat.lt_or_gt_of_ne hne with hl | hl
 ·have:=CX c (show n+1<=m from hl);omega
 ·have:=CX c (show m+1<=n from hl);omega
theorem OB {B:Bl} {fn:Func} (h:fn.results=#[]\/(∃ t,fn.results=#[.tmp t])\/∃ t u,fn.results=#[.tmp t,.tmp u]) {ts ts':Array Value} (hv:aH F B ts ts'):∃ v v',Conc.ResultsC P fn ts v/\Conc.ResultsC P fn ts' v'/\VR F B v v':=by
 rcases h with h | ⟨t,h⟩|⟨t,u,h⟩
 ·exact⟨_,_,Conc.resultsC_none h ts,Conc.resultsC_none h ts',jQ⟩
 ·exact⟨_,_,Conc.resultsC_tmp h ts,Conc.resultsC_tmp h ts',hv.getD t jQ⟩
 ·exact⟨_,_,Conc.resultsC_tmp2 h ts,Conc.resultsC_tmp2 h ts',((aH.nil.push (hv.getD t jQ)).push (hv.getD u jQ)).tuple⟩
theorem Qg {f:Frame} {w:World} (hm:f.mode = .returning) (hd:f.defers = []) (hk:f.kind = .normal) {fn:Func} (hf:P.funcs[f.fn]? = some fn) (hi:P.inits.idxOf? f.fn=none):∃ o w',(stepG P true (Conc.G f []) w).bare = .ended o w':=by
 rw[jh (by rw[hm];exact fun h=>by cases h)];generalize hg:(results fn f.tmps).runT P w #[]=g;obtain⟨r,es⟩:=g;cases r with
 | ok v w'=>exact⟨.done v,w',by simp only[unwind,hd,hm,hf,hg,bare_after,doReturn,hk,hi,Bool.not_true,Bool.false_eq_true,if_false];rfl⟩
 | halt h w'=>
  cases h with
  | stuck s=>exact⟨.stuck s (f.pos P),w',by simp only[unwind,hd,hm,hf,hg,bare_after];rfl⟩
  | _=>exact⟨.stuck "return: the result variables cannot be read" (f.pos P),w',by simp only[unwind,hd,hm,hf,hg,bare_after];rfl⟩
theorem MI {f:Frame} {w:World} {c:List PanicEntry} (hm:f.mode = .panicking c) (hd:f.defers = []) (hc:f.catches P=true):∃ o w',(unwind P true f [] none w).bare = .ended o w':=by
 unfold unwind;simp only[hd,hm,hc,if_true,GStep.bare];exact⟨_,_,rfl⟩
theorem Qh {f:Frame} {cs:List Frame} {w:World} {c:List PanicEntry} (hm:f.mode = .panicking c) (hd:f.defers = []\/∃ r ds,f.defers = { target:=.collected r,args:=#[] }::ds) (hcs:cs ≠ []) {g:Goroutine} {w':World} (h:(unwind P true f cs none w).bare = .go g w'):∃ c,g.frame.mode = .panicking c:=by
 rcases hd with hd | ⟨r,ds,hd⟩
 ·cases cs with
  | nil=>exact absurd rfl hcs
  | cons x xs=>
   simp only[unwind,hd,hm] at h;split at h
   ·cases h
   ·simp only[GStep.bare] at h;cases h;exact lQ _ _
 ·generalize hg:(Instr.takeDeferred r).runT P w #[]=z at *;obtain⟨z1,z2⟩:=z;cases z1 with
  | ok calls w2=>
   simp only[unwind,hd,hg,GStep.bare] at h;cases h;exact⟨c,hm⟩
  | halt x w2=>
   simp only[unwind,hd,hg,GStep.bare] at h;cases h
theorem A8 (S:Setup F P k) {base:Nat} {tr:Frame} (t2:tr.defers = []) (t3:∀ l,(tr.raise l).catches P=true):∀ (N:Nat) {B:Bl} {fL fC:Frame} {bK eu:List Frame} {hL hC:Array Obj} {wL:World} {T:Nat->Question->Nat} {d:Nat} {c:List PanicEntry},
  gJ F P k B (fL::bK) (fC::eu)->HR F (KK P k) base B hL hC->fL.mode = .panicking c->∀ {f:Frame} {w':World},runN P N (lone fL (bK ++ [tr]) (at_ wL hL T d)) = .next (lone f [tr] w')->∃ c,f.mode = .panicking c:=by
 intro N;induction N using Nat.strongRecOn with
 | ind N ih=>
  intro B fL fC bK eu hL hC wL T d c hS H hm f w' h;cases N with
  | zero=>
   injection h with h;obtain⟨rfl,_,_⟩:=xK h;exact⟨c,hm⟩
  | succ N=>
   have hmr:fL.mode ≠ .run:=by rw[hm];exact fun h=>by cases h
   rw[Nat.add_comm,runN_add,pE] at h;have htop:=hS.top;have hdf:fL.defers = []\/∃ r ds,fL.defers = { target:=.collected r,args:=#[] }::ds:=by
    have:=htop.defers;generalize fL.defers=l at this ⊢;generalize fC.defers=l' at this;cases this with
    | nil=>exact .inl rfl
    | cons hd _=>cases hd;exact .inr ⟨_,_,rfl⟩
   by_cases hE:AtEnd fL bK
   ·obtain⟨hcs,hds,_⟩:=hE;obtain⟨CW,b1⟩:=S.Mw htop.ok;subst hcs;have hs1:(stepG P true (Conc.G fL ([] ++ [tr])) (at_ wL hL T d)).bare = .go (Conc.G (tr.raise c) []) (at_ wL hL T d):=by
     rw[jh hmr];simp[unwind,hds,hm,Frame.catches,b1,GStep.bare,Conc.G]
    rw[step_lone_go hs1] at h;dsimp only at h;obtain⟨ch2,m1,m2⟩:∃ c',(tr.raise c).mode = .panicking c'/\(tr.raise c).defers = []:=by
     unfold Frame.raise;split
     ·exact⟨_,rfl,t2⟩
     ·exact⟨_,rfl,t2⟩
    have hs2:∃ o w2,(stepG P true (Conc.G (tr.raise c) []) (at_ wL hL T d)).bare = .ended o w2:=by
     rw[jh (by rw[m1];exact fun h=>by cases h)];exact MI m1 m2 (t3 c)
    obtain⟨o,w2,hs2⟩:=hs2;cases N with
    | zero=>
     injection h with h;have:=(xK h).2.1;cases this
    | succ N=>
     rw[Nat.add_comm,runN_add,pE,step_lone_ended hs2] at h;cases h
   ·have go:∀ {B':Bl} {jT lq:Frame} {iD iZ:List Frame} {hL' hC':Array Obj} {d':Nat},(stepG P true (Conc.G fL (bK ++ [tr])) (at_ wL hL T d)).bare = .go (Conc.G jT (iD ++ [tr])) (at_ wL hL' T d')->gJ F P k B' (jT::iD) (lq::iZ)->HR F (KK P k) base B' hL' hC'->∃ c,f.mode = .panicking c:=by
     intro B' jT lq iD iZ hL' hC' d' g1 g2 g3;have g1':=g1;rw[jh hmr] at g1;obtain⟨c',hc'⟩:=Qh hm hdf (by simp) g1;rw[step_lone_go g1'] at h;exact ih N (by omega) g2 g3 hc' h
    obtain⟨n,⟨jT,iD,lq,iZ,B',hL',hC',es,e1,e2,e3,e4,e5,e6,e7⟩ | hf⟩:=FD S (cs0:=[]) hS hmr hE (m:=true) (wL:=wL) (wC:=at_ wL hC T d) H
    ·exact go (e7 [tr] T d fun _ _=>rfl) e2 e4
    ·rcases hf [tr] T d fun _ _=>rfl with⟨o,w2,g⟩|⟨B',jT,iD,lq,iZ,hL',hC',d',g1,g2,g3,_⟩
     ·rw[step_lone_ended g] at h;cases h
     ·exact go g1 g2 g3
open Classical in
noncomputable def glue (c:Nat->Nat) (T:Nat->Nat->Question->Nat) (d:Nat->Nat):Nat->Question->Nat:=fun p=>
 if h:∃ n,pos c n<=p/\p<pos c (n+1) then T h.choose (d h.choose+(p-pos c h.choose)) else fun _=>0
theorem Qi (c:Nat->Nat) (T:Nat->Nat->Question->Nat) (d:Nat->Nat) (n:Nat):Ag (glue c T d) (pos c n) (T n) (d n) (c n):=by
 intro i hi;have h:∃ m,pos c m<=pos c n+i/\pos c n+i<pos c (m+1):=⟨n,Nat.le_add_right _ _,by simp only[pos];omega⟩;have he:h.choose=n:=MH h.choose_spec ⟨Nat.le_add_right _ _,by simp only[pos];omega⟩;unfold glue;rw[dif_pos h,he];congr 1;omega
def vX (F:Fs) (P:Program) (k:Ok) (base:Nat) (B0:Bl) (cs0:List Frame) (St:Frame->Array Obj->Prop):Goroutine->World->(Nat->Prop)->Prop:=fun g w O=>
 ∃ fL fC B hL,g=Conc.G fC cs0/\FR F P k B true fL fC/\HR F (KK P k) base B hL w.heap/\Ext B0 B/\(∀ a b,B a b->B0 a b\/O b)/\St fL hL
theorem qj (S:Setup F P k) {base:Nat} {main:Bool} {B0:Bl} {cs0:List Frame} {Ro O0:Nat->Prop} (St:Frame->Array Obj->Prop) {Z:Prop} {R:(Nat->Prop)->World->World->Prop} {RR:Goroutine->World->(Nat->Prop)->Prop} (W:Way P main Ro (vX F P k base B0 cs0 St) Z R RR) (hZ:F.jg=true->Z) (hgl:GB F P k B0) (dx:∀ a b,B0 a b->Ro b\/O0 b) (hRb:∀ b,Ro b->b<base) (hlow:∀ b,O0 b->base<=b)
  (hin:∀ f,F.fk f->P.inits.idxOf? f=none) {wL w:World} {hL0:Array Obj} (H:HR F (KK P k) base B0 hL0 w.heap) {f0 A9:Frame} (hfr:FR F P k B0 true f0 A9) (hro:f0.roundOf=none)
  (trap:∃ fr:Frame,P.funcs[fr.fn]? = none/\fr.defers = []/\∀ l,(fr.raise l).catches P=true) (hSt:∀ fr h c,St fr h->fr.mode ≠ .panicking c)
  (C:∀ T d tail,∃ N fr w',runN P N (lone f0 tail (at_ wL hL0 T d)) = .next (lone fr tail w')/\St fr w'.heap) :
  RR (Conc.G A9 cs0) w O0:=by
 apply Classical.byContradiction;intro hno;let X:={ s:Sg // Rel F P k base B0 cs0 O0 RR s };let s0:X:=⟨⟨f0,[],hL0,A9,[],w,O0,B0⟩,⟨.bot hfr hro,H,Ext.refl _,fun a b h=>.inl h,hlow,fun _ h=>h,hno⟩⟩;have Xt:∀ s:X,¬ (s.1.bK = []/\St s.1.fL s.1.hL):=by
  rintro⟨s,hR⟩ ⟨h1,h2⟩;have hst:=hR.st;dsimp only at h1 h2;rw[h1] at hst;have hcC:s.eu = []:=by
   generalize s.eu=c at hst;cases hst with
   | bot=>rfl
   | cons _ ht=>cases ht
  apply hR.no;rw[hcC,List.nil_append];exact W.stop fun w₁ hk=>⟨s.fL,s.fC,s.B,s.hL,rfl,hst.top,hR.hr.keep (W.keep hk) (fun hi=>W.size (hZ hi) hk) (fun a b hb=>(hR.own a b hb).elim (fun h0=>(dx a b h0).imp id (hR.old b)) fun h=>.inr h.1),hR.ext,fun a b hb=>(hR.own a b hb).imp id (·.1),h2⟩
 let Good:X->Prop:=fun s=>¬ AtEnd s.1.fL s.1.bK/\∃ n T d,∃ s':X,Link P wL s.1 s'.1 n T d
 have hD:∀ s:X,∃ (s':X) (n:Nat) (T:Nat->Question->Nat) (d:Nat),(Good s->Link P wL s.1 s'.1 n T d)/\(¬ AtEnd s.1.fL s.1.bK->¬ Good s->Falls F P k base wL s.1 n T d):=by
  intro s;by_cases hg:Good s
  ·obtain⟨_,n,T,d,s',hl⟩:=id hg;exact⟨s',n,T,d,fun _=>hl,fun _ h=>absurd hg h⟩
  ·by_cases hE:AtEnd s.1.fL s.1.bK
   ·exact⟨s,0,fun _ _=>0,0,fun h=>absurd h hg,fun h=>absurd hE h⟩
   ·obtain⟨n,T,d,⟨s',hs',hl⟩ | U3⟩:=U2 S W hZ hgl dx hRb (wL:=wL) s.2 hE
    ·exact absurd ⟨hE,n,T,d,⟨s',hs'⟩,hl⟩ hg
    ·exact⟨s,n,T,d,fun h=>absurd h hg,fun _ _=>U3⟩
 let nx:X->X:=fun s=>(hD s).choose
 let sq:Nat->X:=fun n=>Nat.rec s0 (fun _ s=>nx s) n
 let cn:Nat->Nat:=fun n=>(hD (sq n)).choose_spec.choose
 let tp:Nat->Nat->Question->Nat:=fun n=>(hD (sq n)).choose_spec.choose_spec.choose
 let dn:Nat->Nat:=fun n=>(hD (sq n)).choose_spec.choose_spec.choose_spec.choose
 have hD2:∀ n,(Good (sq n)->Link P wL (sq n).1 (sq (n+1)).1 (cn n) (tp n) (dn n))/\(¬ AtEnd (sq n).1.fL (sq n).1.bK->¬ Good (sq n)->Falls F P k base wL (sq n).1 (cn n) (tp n) (dn n)):=fun n=>
  (hD (sq n)).choose_spec.choose_spec.choose_spec.choose_spec
 let TS:=glue cn tp dn;have V3:∀ n,Ag TS (pos cn n) (tp n) (dn n) (cn n):=Qi cn tp dn;have way:∀ n,(∀ i,i<n->Good (sq i))->∀ tail,runN P n (lone f0 tail (at_ wL hL0 TS 0)) = .next (lone (sq n).1.fL ((sq n).1.bK++tail) (at_ wL (sq n).1.hL TS (pos cn n))):=by
  intro n;induction n with
  | zero=>intro _ tail;rfl
  | succ n ih=>
   intro hg tail;rw[runN_add,ih (fun i hi=>hg i (by omega)) tail];show runN P 1 _=_;rw[pE,step_lone_go ((hD2 n).1 (hg n (by omega)) tail TS (pos cn n) (V3 n))];rfl
 have OC:∀ n,(∀ i,i<n->Good (sq i))->∀ {tail fr w'},runN P n (lone f0 tail (at_ wL hL0 TS 0)) = .next (lone fr tail w')->St fr w'.heap->False:=by
  intro n hg tail fr w' h hl;rw[way n hg tail] at h;injection h with h;obtain⟨h1,h2,h3⟩:=xK h;have hcs:(sq n).1.bK = []:=by
   have:=congrArg List.length h2;simp only[List.length_append] at this;exact List.length_eq_zero_iff.1 (by omega)
  refine Xt (sq n) ⟨hcs,?_⟩;rw[h1];have:w'.heap=(sq n).1.hL:=by rw[<-h3];rfl
  rw[<-this];exact hl
 have over:∀ {n N:Nat} {tail:List Frame} {m:Machine} {o:Outcome} {w1:World},runN P n (lone f0 tail (at_ wL hL0 TS 0)) = .ended o w1->runN P N (lone f0 tail (at_ wL hL0 TS 0)) = .next m->N<n:=by
  intro n N tail m o w1 h1 h2;apply Classical.byContradiction;intro hlt;have:N=n+(N-n):=by omega
  rw[this,runN_add,h1] at h2;cases h2
 by_cases hall:∀ n,Good (sq n)
 ·obtain⟨N,fr,w',h1,h2⟩:=C TS 0 [];exact OC N (fun i _=>hall i) h1 h2
 ·obtain⟨n0,hn0,hlt⟩:∃ n0,¬ Good (sq n0)/\∀ i,i<n0->Good (sq i):=by
   obtain⟨n,hn⟩:=Classical.not_forall.1 hall;induction n using Nat.strongRecOn with
   | ind n ih=>
    by_cases h:∃ i,i<n/\¬ Good (sq i)
    ·obtain⟨i,hi,hg⟩:=h;exact ih i hi hg
    ·exact⟨n,hn,fun i hi=>Classical.byContradiction fun hg=>h ⟨i,hi,hg⟩⟩
  have early:∀ {N:Nat} {tail fr w'},runN P N (lone f0 tail (at_ wL hL0 TS 0)) = .next (lone fr tail w')->St fr w'.heap->n0<N:=by
   intro N tail fr w' h1 h2;apply Classical.byContradiction;intro hl;exact OC N (fun i hi=>hlt i (by omega)) h1 h2
  by_cases hE:AtEnd (sq n0).1.fL (sq n0).1.bK
  ·have hR:=(sq n0).2;obtain⟨hcs,hds,hmd⟩:=hE;have htop:=hR.st.top;obtain⟨CW,b1⟩:=S.Mw htop.ok;cases hm:(sq n0).1.fL.mode with
   | run=>exact hmd hm
   | returning=>
    obtain⟨N,fr,w',h1,h2⟩:=C TS 0 [];have hle:=early h1 h2;obtain⟨o,w2,hf2⟩:=Qg (w:=at_ wL (sq n0).1.hL TS (pos cn n0)) hm hds htop.kd b1 (hin _ htop.ok);have hend:runN P (n0+1) (lone f0 [] (at_ wL hL0 TS 0)) = .ended o w2:=by
     rw[runN_add,way n0 hlt []];show runN P 1 _=_;rw[hcs,pE,List.append_nil,step_lone_ended hf2]
    have:=over hend h1;omega
   | panicking chain=>
    obtain⟨tr,t1,t2,t3⟩:=trap;obtain⟨N,fr,w',h1,h2⟩:=C TS 0 [tr];have hle:=early h1 h2;rw[show N=n0+(N-n0) by omega,runN_add,way n0 hlt [tr]] at h1;obtain⟨c,hc⟩:=A8 S t2 t3 (N-n0) hR.st hR.hr hm h1;exact hSt _ _ c h2 hc
  ·obtain⟨tr,t1,t2,t3⟩:=trap;obtain⟨N,fr,w',h1,h2⟩:=C TS 0 [tr];have hle:=early h1 h2;rw[show N=n0+(1+(N-n0-1)) by omega,runN_add,way n0 hlt [tr]] at h1;dsimp only at h1;rw[runN_add,pE] at h1;rcases (hD2 n0).2 hE hn0 [tr] TS (pos cn n0) (V3 n0) with⟨o,w2,hf2⟩|⟨B',jT,iD,lq,iZ,hL',hC',d',g1,g2,g3,c,g4⟩
   ·rw[step_lone_ended hf2] at h1;cases h1
   ·rw[step_lone_go g1] at h1;obtain⟨c,hc⟩:=A8 S t2 t3 _ g2 g3 g4 h1;exact hSt _ _ c h2 hc
theorem JN (S:Setup F P k) (hid:F.jg=false) {base:Nat} {main:Bool} {B0:Bl} {cs0:List Frame} {Ro O0:Nat->Prop} (hgl:GB F P k B0) (dx:∀ a b,B0 a b->Ro b\/O0 b) (hRb:∀ b,Ro b->b<base) (hlow:∀ b,O0 b->base<=b)
  (hin:∀ f,F.fk f->P.inits.idxOf? f=none) {wL w:World} {hL0:Array Obj} (H:HR F (KK P k) base B0 hL0 w.heap) {f0 A9:Frame} (hfr:FR F P k B0 true f0 A9) (hro:f0.roundOf=none) (St:Frame->Array Obj->Prop)
  (trap:∃ fr:Frame,P.funcs[fr.fn]? = none/\fr.defers = []/\∀ l,(fr.raise l).catches P=true) (hSt:∀ fr h c,St fr h->fr.mode ≠ .panicking c)
  (C:∀ T d tail,∃ N fr w',runN P N (lone f0 tail (at_ wL hL0 T d)) = .next (lone fr tail w')/\St fr w'.heap) :
  Runs P main Ro (vX F P k base B0 cs0 St) (Conc.G A9 cs0) w O0:=
 qj S St Qf (fun hi=>by rw[hid] at hi;cases hi) hgl dx hRb hlow hin H hfr hro trap hSt C
theorem transfer (S:Setup F P k) (hid:F.jg=false) {base:Nat} {main:Bool} {B0:Bl} {f:FuncId} {cs0:List Frame} {Ro O0:Nat->Prop} (hgl:GB F P k B0) (dx:∀ a b,B0 a b->Ro b\/O0 b) (hRb:∀ b,Ro b->b<base) (hlow:∀ b,O0 b->base<=b)
  (hin:∀ f,F.fk f->P.inits.idxOf? f=none) (hres:Gy P f) (hf:F.fn f) {wL w:World} {hL0:Array Obj} (H:HR F (KK P k) base B0 hL0 w.heap) {xs ys:Array Value} (hx:aH F B0 xs ys) (Post:Value->Array Obj->Prop)
  (trap:∃ fr:Frame,P.funcs[fr.fn]? = none/\fr.defers = []/\∀ l,(fr.raise l).catches P=true)
  (C:∀ T d,Calls P f xs (at_ wL hL0 T d) fun e w'=>∃ v,e = .returned v/\Post v w'.heap) :
  Runs P main Ro (Gz F P k base B0 f cs0 Post) (Conc.G (Frame.enter P f ys .normal) cs0) w O0:=by
 obtain⟨fn,r1,r2⟩:=hres;refine (JN S hid (wL:=wL) (cs0:=cs0) hgl dx hRb hlow hin H (CR S hf hx) rfl (fun fr h=>fr.fn=f/\fr.mode = .returning/\fr.defers = []/\∃ v,Conc.ResultsC P fn fr.tmps v/\Post v h) trap (fun fr h c hx e=>by rw[hx.2.1] at e;cases e) fun T d tail=>?_).mono fun g w O ⟨fL,fC,B,hL,e1,e2,e3,e4,e5,f1,f2,f3,v,f4,f5⟩=>?_
 ·obtain⟨e,w',fr,⟨v,rfl,hp⟩,⟨N,hN⟩,hfn,l1,l2,_,Y0,l4,l5⟩:=C T d tail;rw[hfn,r1] at l4;cases l4;have hR:∃ v1,Conc.ResultsC P fn fr.tmps v1:=by
   rcases r2 with h | ⟨t,h⟩|⟨t,u,h⟩
   ·exact⟨_,Conc.resultsC_none h _⟩
   ·exact⟨_,Conc.resultsC_tmp h _⟩
   ·exact⟨_,Conc.resultsC_tmp2 h _⟩
  obtain⟨v1,hv1⟩:=hR;have:=(hv1 w').1;rw[l5] at this;injection this with this;subst this;exact⟨N,fr,w',hN,hfn,l1,l2,v,hv1,hp⟩
 ·obtain⟨q1,q2,q3,q4,q5,q6,q7,q8,q9⟩:=e2;have dC:fC.defers = []:=by
   rw[f3] at q6;cases hx:fC.defers with
   | nil=>rfl
   | cons _ _=>rw[hx] at q6;cases q6
  have mC:fC.mode = .returning:=by
   rw[f2] at q7;cases hx:fC.mode<;>first | rfl | (rw[hx] at q7;cases q7)
  obtain⟨v1,v',g1,g2,g3⟩:=OB (P:=P) r2 q4;have hvv:v1=v:=by
   have h1:=(g1 w).1;rw[(f4 w).1] at h1;injection h1 with h1;exact h1.symm
  subst hvv;exact⟨fC,fn,v1,v',B,hL,e1,mC,dC,q3,by rw[<-q1,f1],r1,g2,g3,e3,e4,e5,f5⟩
end Px
namespace Px
open Go
variable {F:Fs} {P:Program} {k:Ok}
def GA (F:Fs) (P:Program) (k:Ok) (base:Nat) (B0:Bl) (b:Frame) (cs0:List Frame) (PN PR:Act->Array Obj->Prop):Goroutine->World->(Nat->Prop)->Prop:=fun g w O=>
 ∃ aL aC B hL,aH F B aL.tmps aC.tmps/\aL.defers = []/\aC.defers = []/\HR F (KK P k) base B hL w.heap/\Ext B0 B/\(∀ a b,B a b->B0 a b\/O b) /\
  ((g=Conc.G (b.at aC k.K) cs0/\PN aL hL)\/∃ todo,g=Conc.G { b.at aC todo with mode:=.returning } cs0/\PR aL hL)
def R4 (b:Frame) (PN PR:Act->Array Obj->Prop):Frame->Array Obj->Prop:=fun fr h=>fr.fn=b.fn/\fr.kind=b.kind/\fr.roundOf=none/\fr.defers = []/\((fr.mode = .run/\fr.todo = [.code (.refuse default)]/\PN ⟨fr.tmps,[]⟩ h)\/(fr.mode = .returning/\PR ⟨fr.tmps,[]⟩ h))
theorem CY {base:Nat} {B0:Bl} {cs0:List Frame} {b:Frame} {PN PR:Act->Array Obj->Prop} (hbk:b.kind = .normal) {g:Goroutine} {w:World} {O:Nat->Prop} (h:vX F P k base B0 cs0 (R4 b PN PR) g w O):GA F P k base B0 b cs0 PN PR g w O:=by
 obtain⟨fL,fC,B,hL,e1,e2,e3,e4,e5,f1,f2,f3,f4,f5⟩:=h;obtain⟨q1,q2,q3,q4,q5,q6,q7,q8,q9⟩:=e2;have dC:fC.defers = []:=by
  rw[f4] at q6;cases hx:fC.defers with
  | nil=>rfl
  | cons _ _=>rw[hx] at q6;cases q6
 have rC:fC.roundOf=none:=by
  rw[f3] at q8;cases hx:fC.roundOf with
  | none=>rfl
  | some _=>rw[hx] at q8;cases q8
 refine⟨⟨fL.tmps,[]⟩,⟨fC.tmps,[]⟩,B,hL,q4,rfl,rfl,e3,e4,e5,?_⟩;obtain⟨fn,ts,td,ds,md,kd,ro⟩:=fC;dsimp only at q1 q3 dC rC e1;subst dC rC;rcases f5 with⟨f5,f6,f7⟩|⟨f5,f6⟩
 ·refine .inl ⟨?_,f7⟩;have hm:md = .run:=by
   rw[f5] at q7;dsimp only at q7;cases md<;>first | rfl | cases q7
  have htd:td=k.K:=by
   rw[f6] at q5;dsimp only at q5;generalize hk:k.K=KL at q5;cases q5 with
   | cons h _=>cases h with | code h=>simp[KK,cK] at h
   | stop=>first | rfl | exact hk.symm | exact hk
  rw[e1,hm,htd];simp only[Frame.at,<-q1,f1,q3,hbk]
 ·refine .inr ⟨td,?_,f6⟩;have hm:md = .returning:=by
   rw[f5] at q7;dsimp only at q7;cases md<;>first | rfl | cases q7
  rw[e1,hm];simp only[Frame.at,<-q1,f1,q3,hbk]
theorem GH (S:Setup F P k) {base:Nat} {main:Bool} {B0:Bl} {cs0:List Frame} {Ro O0:Nat->Prop} (hgl:GB F P k B0) (dx:∀ a b,B0 a b->Ro b\/O0 b) (hRb:∀ b,Ro b->b<base) (hlow:∀ b,O0 b->base<=b)
  (hin:∀ f,F.fk f->P.inits.idxOf? f=none) {wL w:World} {hL0:Array Obj} (H:HR F (KK P k) base B0 hL0 w.heap) {b:Frame} {a a':Act} {c:Code} (hc:cK P k c=true) (hK:∃ x K,k.K = .code x::K) (hb:F.fk b.fn) (hbk:b.kind = .normal)
  (ht:aH F B0 a.tmps a'.tmps) (hd:a.defers = []) (hd':a'.defers = []) (PN PR:Act->Array Obj->Prop) {Z:Prop} {R:(Nat->Prop)->World->World->Prop} {RR:Goroutine->World->(Nat->Prop)->Prop} (W:Way P main Ro (vX F P k base B0 cs0 (R4 b PN PR)) Z R RR) (hZ:F.jg=true->Z)
  (trap:∃ fr:Frame,P.funcs[fr.fn]? = none/\fr.defers = []/\∀ l,(fr.raise l).catches P=true)
  (C:∀ T d,c.wp P (fun e a w=>a.defers = []/\((e = .normal/\PN a w.heap)\/(e = .ret/\PR a w.heap))) a (at_ wL hL0 T d)) :
  RR (Conc.G (b.at a' (.code c::k.K)) cs0) w O0:=by
 exact qj S (main:=main) (cs0:=cs0) _ W hZ hgl dx hRb hlow hin H (f0:=b.at a [.code c,.code (.refuse default)]) (A9:=b.at a' (.code c::k.K)) ⟨rfl,hbk,hbk,ht,.cons (.code hc) (.stop rfl ⟨_,rfl⟩ hK),by rw[show (b.at a _).defers=a.defers from rfl,show (b.at a' _).defers=a'.defers from rfl,hd,hd'];exact .nil,.run,.none,hb⟩ rfl
  trap (fun fr h c hx e=>by
   obtain⟨_,_,_,_,⟨hm,_⟩|⟨hm,_⟩⟩:=hx<;>rw[hm] at e<;>cases e) fun T d tail=>by
   obtain⟨e,a₁,w₁,⟨hd₁,hq⟩,harr⟩:=C T d b [.code (.refuse default)] tail;have ea:a₁=⟨a₁.tmps,[]⟩:=by cases a₁;simp only at hd₁;rw[hd₁]
   rcases hq with⟨rfl,hq⟩|⟨rfl,hq⟩
   ·obtain⟨N,hN⟩:=harr;exact⟨N,_,w₁,hN,rfl,rfl,rfl,hd₁,.inl ⟨rfl,rfl,by rw[ea] at hq;exact hq⟩⟩
   ·obtain⟨todo,N,hN⟩:=harr;exact⟨N,_,w₁,hN,rfl,rfl,rfl,hd₁,.inr ⟨rfl,by rw[ea] at hq;exact hq⟩⟩
end Px
