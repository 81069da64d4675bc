import Derived.Test.YtnonoiafongllaaGreatDoorPxSemGroup
import Derived.Conc.Own
namespace Px
open Go
def cK (P:Program) (k:Ok):Code->Bool
 | .skip | .exit _ | .label _ | .ret=>true
 | .region _ ops _=>ops.all (iX P k ·.op)
 | .seq a b=>cK P k a&&cK P k b
 | .cond c a b=>okO k c&&cK P k a&&cK P k b
 | .block _ c | .loop c | .scope c=>cK P k c
 | .rangeFunc f _ a b=>okO k f&&cK P k a&&cK P k b
 | _=>false
def KK (P:Program) (k:Ok):Cs:=fun c=>cK P k c=true
variable {F:Fs} {P:Program} {k:Ok} {B:Bl}
inductive IR (P:Program) (k:Ok) (B:Bl):Item->Item->Prop
 | code {c:Code}:KK P k c->IR P k B (.code c) (.code c)
 | inBlock (id:Nat):IR P k B (.inBlock id) (.inBlock id)
 | inLoop {c:Code}:KK P k c->IR P k B (.inLoop c) (.inLoop c)
 | inScope {c:Code}:KK P k c->IR P k B (.inScope c) (.inScope c)
 | inRegion {ops:Array Oper} (l:List Nat):ops.all (iX P k ·.op)=true->IR P k B (.inRegion ops l) (.inRegion ops l)
 | inRangeFunc {l l':Nat}:B l l'->IR P k B (.inRangeFunc l) (.inRangeFunc l')
 | endRangeFunc {l l':Nat}:B l l'->IR P k B (.endRangeFunc l) (.endRangeFunc l')
 | beginRound:IR P k B .beginRound .beginRound
inductive TR (P:Program) (k:Ok) (B:Bl) (s:Bool):List Item->List Item->Prop
 | nil:TR P k B s [] []
 | cons {i i':Item} {l l':List Item}:IR P k B i i'->TR P k B s l l'->TR P k B s (i::l) (i'::l')
 | stop {r:Code}:s=true->(∃ w,r = .refuse w)->(∃ c K,k.K = .code c::K)->TR P k B s [.code r] k.K
theorem IR.mono {B B':Bl} (e:Ext B B') {i i':Item} (h:IR P k B i i'):IR P k B' i i':=by
 cases h with
 | code h=>exact .code h
 | inBlock id=>exact .inBlock id
 | inLoop h=>exact .inLoop h
 | inScope h=>exact .inScope h
 | inRegion l h=>exact .inRegion l h
 | inRangeFunc h=>exact .inRangeFunc (e _ _ h)
 | endRangeFunc h=>exact .endRangeFunc (e _ _ h)
 | beginRound=>exact .beginRound
theorem TR.mono {s:Bool} {B B':Bl} (e:Ext B B') {l l':List Item} (h:TR P k B s l l'):TR P k B' s l l':=by
 induction h with
 | nil=>exact .nil
 | cons h _ ih=>exact .cons (h.mono e) ih
 | stop h h' h''=>exact .stop h h' h''
inductive PR (F:Fs) (B:Bl):List PanicEntry->List PanicEntry->Prop
 | nil:PR F B [] []
 | cons {v v':Value} {r g:Bool} {l l':List PanicEntry}:VR F B v v'->PR F B l l'->PR F B ({ v,recovered:=r,goexit:=g }::l) ({ v:=v',recovered:=r,goexit:=g }::l')
theorem PR.mono {B B':Bl} (e:Ext B B') {l l':List PanicEntry} (h:PR F B l l'):PR F B' l l':=by
 induction h with
 | nil=>exact .nil
 | cons h _ ih=>exact .cons (h.mono e) ih
theorem PR.append {l l' m m':List PanicEntry} (h:PR F B l l') (h':PR F B m m'):PR F B (l++m) (l'++m'):=by
 induction h with
 | nil=>exact h'
 | cons h _ ih=>exact .cons h ih
inductive MR (F:Fs) (B:Bl):FrameMode->FrameMode->Prop
 | run:MR F B .run .run
 | returning:MR F B .returning .returning
 | panicking {l l':List PanicEntry}:PR F B l l'->MR F B (.panicking l) (.panicking l')
theorem MR.mono {B B':Bl} (e:Ext B B') {m m':FrameMode} (h:MR F B m m'):MR F B' m m':=by
 cases h with
 | run=>exact .run
 | returning=>exact .returning
 | panicking h=>exact .panicking (h.mono e)
inductive RR (B:Bl):Option Nat->Option Nat->Prop
 | none:RR B none none
 | some {l l':Nat}:B l l'->RR B (some l) (some l')
theorem RR.mono {B B':Bl} (e:Ext B B') {x y:Option Nat} (h:RR B x y):RR B' x y:=by
 cases h with
 | none=>exact .none
 | some h=>exact .some (e _ _ h)
structure FR (F:Fs) (P:Program) (k:Ok) (B:Bl) (s:Bool) (f f':Frame):Prop where
 fn:f.fn=f'.fn
 kd:f.kind = .normal
 kd':f'.kind = .normal
 tmps:aH F B f.tmps f'.tmps
 todo:TR P k B s f.todo f'.todo
 defers:kH B f.defers f'.defers
 mode:MR F B f.mode f'.mode
 round:RR B f.roundOf f'.roundOf
 ok:F.fk f.fn
theorem FR.mono {s:Bool} {B B':Bl} (e:Ext B B') {f f':Frame} (h:FR F P k B s f f'):FR F P k B' s f f' where
 fn:=h.fn
 kd:=h.kd
 kd':=h.kd'
 tmps:=h.tmps.mono e
 todo:=h.todo.mono e
 defers:=h.defers.mono e
 mode:=h.mode.mono e
 round:=h.round.mono e
 ok:=h.ok
inductive gJ (F:Fs) (P:Program) (k:Ok) (B:Bl):List Frame->List Frame->Prop
 | bot {f f':Frame}:FR F P k B true f f'->f.roundOf=none->gJ F P k B [f] [f']
 | cons {f f':Frame} {l l':List Frame}:FR F P k B false f f'->gJ F P k B l l'->gJ F P k B (f::l) (f'::l')
theorem gJ.mono {B B':Bl} (e:Ext B B') {l l':List Frame} (h:gJ F P k B l l'):gJ F P k B' l l':=by
 induction h with
 | bot h hr=>exact .bot (h.mono e) hr
 | cons h _ ih=>exact .cons (h.mono e) ih
theorem gJ.ne {l l':List Frame} (h:gJ F P k B l l'):l.isEmpty=false:=by cases h<;>rfl
theorem gJ.top {f f':Frame} {l l':List Frame} (h:gJ F P k B (f::l) (f'::l')):FR F P k B l.isEmpty f f':=by
 cases h with
 | bot h _=>exact h
 | cons h ht=>rw[ht.ne];exact h
theorem gJ.low {f f':Frame} {l l':List Frame} (h:gJ F P k B (f::l) (f'::l')) (hl:l.isEmpty=true):f.roundOf=none:=by
 cases h with
 | bot _ h=>exact h
 | cons h ht=>rw[ht.ne] at hl;cases hl
theorem gJ.turn {B':Bl} (e:Ext B B') {f f' g g':Frame} {l l':List Frame} (h:gJ F P k B (f::l) (f'::l')) (hg:FR F P k B' l.isEmpty g g') (hr:g.roundOf=f.roundOf):gJ F P k B' (g::l) (g'::l'):=by
 cases h with
 | bot h h0=>exact .bot hg (hr.trans h0)
 | cons h ht=>rw[ht.ne] at hg;exact .cons hg (ht.mono e)
theorem gJ.push {B':Bl} (e:Ext B B') {f f' g g':Frame} {l l':List Frame} (h:gJ F P k B (f::l) (f'::l')) (hg:FR F P k B' false g g'):gJ F P k B' (g::f::l) (g'::f'::l'):=.cons hg (h.mono e)
theorem rH {s:Bool} {f f':Frame} (h:FR F P k B s f f') {v v':Value} (hv:VR F B v v'):FR F P k B s (f.finish v) (f'.finish v')/\(f.finish v).roundOf=f.roundOf:=by
 obtain⟨fn,tmps,todo,defers,mode,kind,ro⟩:=f;obtain⟨fn',UU,todo',defers',UW,kind',ro'⟩:=f';obtain⟨h1,h2,h3,h4,h5,h6,h7,h8,h9⟩:=h;dsimp only at h1 h2 h3 h4 h5 h6 h7 h8 h9;subst h1 h2 h3;cases h5 with
 | nil=>exact⟨⟨rfl,rfl,rfl,h4,.nil,h6,h7,h8,h9⟩,rfl⟩
 | stop hs hr hk=>
  have hk':=hk;obtain⟨c,K,hk⟩:=hk;simp only[Frame.finish,hk];exact⟨⟨rfl,rfl,rfl,h4,by rw[<-hk];exact .stop hs hr hk',h6,h7,h8,h9⟩,trivial⟩
 | cons hi hl=>
  cases hi with
  | @inRegion ops l ho=>
   cases l with
   | nil=>exact⟨⟨rfl,rfl,rfl,h4,.cons (.inRegion [] ho) hl,h6,h7,h8,h9⟩,rfl⟩
   | cons i rest=>
    refine⟨⟨rfl,rfl,rfl,?_,.cons (.inRegion rest ho) hl,h6,h7,h8,h9⟩,rfl⟩;simp only[Frame.finish];cases (ops[i]?).bind (·.dst) with
    | none=>exact h4
    | some d=>exact h4.set _ hv
  | inRangeFunc hb=>exact⟨⟨rfl,rfl,rfl,h4,.cons (.endRangeFunc hb) hl,h6,h7,h8,h9⟩,rfl⟩
  | beginRound=>exact⟨⟨rfl,rfl,rfl,h4,hl,h6,h7,h8,h9⟩,rfl⟩
  | code hc=>exact⟨⟨rfl,rfl,rfl,h4,.cons (.code hc) hl,h6,h7,h8,h9⟩,rfl⟩
  | inBlock id=>exact⟨⟨rfl,rfl,rfl,h4,.cons (.inBlock id) hl,h6,h7,h8,h9⟩,rfl⟩
  | inLoop hc=>exact⟨⟨rfl,rfl,rfl,h4,.cons (.inLoop hc) hl,h6,h7,h8,h9⟩,rfl⟩
  | inScope hc=>exact⟨⟨rfl,rfl,rfl,h4,.cons (.inScope hc) hl,h6,h7,h8,h9⟩,rfl⟩
  | endRangeFunc hb=>exact⟨⟨rfl,rfl,rfl,h4,.cons (.endRangeFunc hb) hl,h6,h7,h8,h9⟩,rfl⟩
theorem rJ {s:Bool} {f f':Frame} (h:FR F P k B s f f') {l l':List PanicEntry} (hl:PR F B l l'):FR F P k B s (f.raise l) (f'.raise l')/\(f.raise l).roundOf=f.roundOf:=by
 obtain⟨fn,tmps,todo,defers,mode,kind,ro⟩:=f;obtain⟨fn',UU,todo',defers',UW,kind',ro'⟩:=f';obtain⟨h1,h2,h3,h4,h5,h6,h7,h8,h9⟩:=h;dsimp only at h1 h2 h3 h4 h5 h6 h7 h8 h9;subst h1 h2 h3;cases h7 with
 | run=>exact⟨⟨rfl,rfl,rfl,h4,h5,h6,.panicking hl,h8,h9⟩,rfl⟩
 | returning=>exact⟨⟨rfl,rfl,rfl,h4,h5,h6,.panicking hl,h8,h9⟩,rfl⟩
 | panicking h=>exact⟨⟨rfl,rfl,rfl,h4,h5,h6,.panicking (hl.append h),h8,h9⟩,rfl⟩
theorem UY (hgl:∀ g,k.gl g=true->B g g) (hk:∀ f,k.fn f=true->F.fn f\/F.ex f) {s:Bool} {f f':Frame} (h:FR F P k B s f f'):CK F k B f.eval f'.eval:=by
 intro x hx;cases x with
 | tmp t=>exact h.tmps.getD t jQ
 | const v=>exact AL hx
 | global g=>exact .ptr ⟨hgl g hx,rfl,rfl,fun _=>rfl⟩
 | func g=>exact .func (hk g hx) rfl rfl (fun i h=>absurd h (Nat.not_lt_zero _)) (fun i h=>absurd h (Nat.not_lt_zero _))
end Px
namespace Px
open Go
structure Setup (F:Fs) (P:Program) (k:Ok):Prop where
 bodies:∀ f,F.fn f->∃ fn c,P.funcs[f]? = some fn/\(fn.name == "runtime.NumGoroutine")=false/\fn.body=some c/\cK P k c=true
 fns:∀ f,k.fn f=true->F.fn f\/F.ex f
 ext:vW F P
 mt:zU F P k.mt
 cm:k.cm=true->F.cm=true
 G:F.G=P.globals.size
 bt:P.info? F.bt=none
 recs:∀ f,F.fr f->∃ fn,P.funcs[f]? = some fn
theorem Setup.Mw {F:Fs} {P:Program} {k:Ok} (h:Setup F P k) {f:Nat} (hf:F.fk f):∃ fn,P.funcs[f]? = some fn:=hf.elim (fun hf=>let ⟨fn,_,h1,_⟩:=h.bodies f hf;⟨fn,h1⟩) (h.recs f)
theorem Setup.bd {F:Fs} {P:Program} {k:Ok} (h:Setup F P k):Bodies F P:=fun f hf=>by
 obtain⟨fn,c,h1,h2,h3,_⟩:=h.bodies f hf;exact⟨fn,h1,h2,by simp[h3]⟩
variable {F:Fs} {P:Program} {k:Ok} {base:Nat} {B:Bl}
def Gw (F:Fs) (P:Program) (k:Ok) (base:Nat) (wL:World) (T:Nat->Question->Nat) (tail:List Frame) (s:GStep):Prop:=
 (∃ o w,s.bare = .ended o w)\/∃ B' jT iD lq iZ hL' hC' d',s.bare = .go (Conc.G jT (iD++tail)) (at_ wL hL' T d')/\gJ F P k B' (jT::iD) (lq::iZ)/\HR F (KK P k) base B' hL' hC'/\∃ c,jT.mode = .panicking c
def sK (F:Fs) (P:Program) (k:Ok) (base:Nat) (B:Bl) (cs0:List Frame) (nu:GStep) (j6:List Frame->World->GStep) (wL:World) (hL:Array Obj) (wC:World):Prop:=
 ∃ n,(∃ jT iD lq iZ B' hL' hC' es,nu = .go (Conc.G lq (iZ++cs0)) (at_ wC hC' wC.tape (wC.drawn+n)) es/\gJ F P k B' (jT::iD) (lq::iZ)/\Ext B B'/\HR F (KK P k) base B' hL' hC' /\
   Fr base B B' wC.heap hC'/\fH base B' es/\∀ tail T d,Ag T d wC.tape wC.drawn n->(j6 tail (at_ wL hL T d)).bare = .go (Conc.G jT (iD++tail)) (at_ wL hL' T (d+n))) \/
  ∀ tail T d,Ag T d wC.tape wC.drawn n->Gw F P k base wL T tail (j6 tail (at_ wL hL T d))
def yL (F:Fs) (P:Program) (k:Ok) (base:Nat) (B:Bl) (main:Bool) (fL:Frame) (bK:List Frame) (fC:Frame) (eu cs0:List Frame) (wL:World) (hL:Array Obj) (wC:World):Prop:=
 sK F P k base B cs0 (stepG P main (Conc.G fC (eu++cs0)) wC) (fun tail w=>stepG P true (Conc.G fL (bK++tail)) w) wL hL wC
theorem Mx {P:Program} {fn:FuncId} {es:Array Event} {e:Event} (h:e∈seen P fn es):e∈es:=by
 unfold seen at h;have key:∀ (l:List Event) (q:Bool) (acc:Array Event),e∈(l.foldl (init:=(q,acc)) fun (q,kept) e=>
   match e.loc with
   | .mark (.extern f)=>((P.funcs[f]?).any (·.norace),kept)
   | _=>(q,if q && !e.sync then kept else kept.push e)).2->e∈acc\/e∈l:=by
  intro l;induction l with
  | nil=>intro q acc h;exact .inl h
  | cons x l ih=>
   intro q acc h;simp only[List.foldl_cons] at h;split at h
   ·rcases ih _ _ h with h | h
    ·exact .inl h
    ·exact .inr (by simp[h])
   ·rcases ih _ _ h with h | h
    ·split at h
     ·exact .inl h
     ·simp only[Array.mem_push] at h;rcases h with h | h
      ·exact .inl h
      ·exact .inr (by simp[h])
    ·exact .inr (by simp[h])
 dsimp only at h;rw[<-Array.foldl_toList] at h;rcases key _ _ _ h with h | h
 ·simp at h
 ·exact Array.mem_toList_iff.1 h
theorem fH.seen {es:Array Event} {fn:FuncId} (h:fH base B es):fH base B (seen P fn es):=fun e he=>h e (Mx he)
theorem AZ {m:Bool} {f:Frame} {cs:List Frame} {w:World} (h:f.mode = .run):stepG P m (Conc.G f cs) w=stepG.exec P m true f cs none w:=by
 simp[stepG,Conc.G,h]
theorem gZ {A:Type} (s:Sem A) (w:World):(s.runT P w #[]).1=s.run P w:=Sem.runT_fst ..
theorem MB {es es':Array Event} {g:Goroutine} {w:World}:GStep.after es (.go g w es') = .go g w (es++es'):=rfl
theorem bare_after {es:Array Event} {s:GStep}:(GStep.after es s).bare=s.bare:=by cases s<;>rfl
theorem fH.append {es es':Array Event} (h:fH base B es) (h':fH base B es'):fH base B (es++es'):=fun e he=>by
 rcases Array.mem_append.1 he with h1 | h1
 ·exact h e h1
 ·exact h' e h1
theorem fH.mono {B':Bl} (e:Ext B B') {es:Array Event} (h:fH base B es):fH base B' es:=fun x hx=>(h x hx).mono e
theorem Ag.head {T T':Nat->Question->Nat} {d d' n m:Nat} (h:Ag T d T' d' (n+m)):Ag T d T' d' n:=fun i hi=>h i (by omega)
theorem Ag.tail {T T':Nat->Question->Nat} {d d' n m:Nat} (h:Ag T d T' d' (n+m)):Ag T (d+n) T' (d'+n) m:=fun i hi=>by
 have:=h (n+i) (by omega);rw[show d+n+i=d+(n+i) by omega,show d'+n+i=d'+(n+i) by omega];exact this
theorem oQ {A A':Type} {Q:Bl->A->A'->Prop} {s:Sem A} {s':Sem A'} (hs:SR F (KK P k) P Q B s s') {cs0:List Frame} {wL wC:World} {hL:Array Obj} (H:HR F (KK P k) base B hL wC.heap)
  (Oz:Except Value A'->World->GStep) (OA:List Frame->Except Value A->World->GStep) (fn:FuncId) {nu:GStep} {j6:List Frame->World->GStep}
  (ok:∀ B' x y hL' hC' n,Ext B B'->XR F Q B' x y->HR F (KK P k) base B' hL' hC'->sK F P k base B' cs0 (Oz y (at_ wC hC' wC.tape (wC.drawn+n))) (fun tail w=>OA tail x w) wL hL' (at_ wC hC' wC.tape (wC.drawn+n)))
  (eC:∀ y w es,(∃ B' x,XR F Q B' x y)->s'.runT P wC #[]=(res y w,es)->nu=GStep.after (seen P fn es) (Oz y w))
  (eL:∀ tail x w w',(∃ B' y,XR F Q B' x y)->s.run P w=res x w'->(j6 tail w).bare=(OA tail x w').bare)
  (bad:∀ tail h w w' T,Gone F (KK P k) base wL T B h w'->s.run P w = .halt h w'->Gw F P k base wL T tail (j6 tail w)):sK F P k base B cs0 nu j6 wL hL wC:=by
 obtain⟨n,hr | hr⟩:=hs.run wL hL wC #[] H
 ·obtain⟨x,y,B',hL',hC',es',e1,e2,e3,e4,e5,e6,e7⟩:=hr;obtain⟨m,h2 | h2⟩:=ok B' x y hL' hC' n e3 e2 e4
  ·obtain⟨jT,iD,lq,iZ,B2,hL2,hC2,es2,g1,g2,g3,g4,g5,g6,g7⟩:=h2;refine⟨n+m,.inl ⟨jT,iD,lq,iZ,B2,hL2,hC2,seen P fn es'++es2,?_,g2,e3.trans g3,g4,e5.trans g5,(e6.seen.mono g3).append g6,fun tail T d hT=>?_⟩⟩
   ·rw[Array.empty_append] at e1;rw[eC y _ _ ⟨B',x,e2⟩ e1,g1,MB];simp only[at_,Nat.add_assoc]
   ·rw[eL tail x _ _ ⟨B',y,e2⟩ (e7 T d hT.head),g7 tail T (d+n) hT.tail,Nat.add_assoc]
  ·refine⟨n+m,.inr fun tail T d hT=>?_⟩;have g:=h2 tail T (d+n) hT.tail;unfold Gw at g ⊢;rw[eL tail x _ _ ⟨B',y,e2⟩ (e7 T d hT.head)];exact g
 ·refine⟨n,.inr fun tail T d hT=>?_⟩;obtain⟨h,w,hb,e⟩:=hr T d hT;exact bad tail h _ w T hb e
theorem lQ (f:Frame) (l:List PanicEntry):∃ c,(f.raise l).mode = .panicking c:=by
 unfold Frame.raise;split<;>exact⟨_,rfl⟩
theorem fu {B:Bl} {cs0:List Frame} {wL wC:World} {hL:Array Obj} (H:HR F (KK P k) base B hL wC.heap) {fL fC:Frame} {bK eu:List Frame} (hS:gJ F P k B (fL::bK) (fC::eu)) {nu:GStep} {j6:List Frame->World->GStep}
  (eC:nu = .go (Conc.G fC (eu++cs0)) wC) (eL:∀ tail w,(j6 tail w).bare = .go (Conc.G fL (bK++tail)) w):sK F P k base B cs0 nu j6 wL hL wC:=
 ⟨0,.inl ⟨fL,bK,fC,eu,B,hL,wC.heap,#[],eC,hS,Ext.refl _,H,Fr.refl _ _ _,fH.nil,fun _ _ _ _=>eL _ _⟩⟩
end Px
namespace Px
open Go
variable {F:Fs} {P:Program} {k:Ok} {base:Nat} {B:Bl}
def Cg (P:Program) (fr:Frame) (cs:List Frame):Except Value Next->World->GStep
 | .ok (.value v),w=>.go (Conc.G (fr.finish v) cs) w
 | .ok .skip,w=>.go (Conc.G (fr.finish undef) cs) w
 | .ok (.enter f args),w=>.go (Conc.G (Frame.enter P f args .normal) (fr::cs)) w
 | .ok (.round l f tmps a b),w=>.go (Conc.G (Frame.round l f tmps a b .normal) (fr::cs)) w
 | .error v,w=>.go (Conc.G (fr.raise [{ v,recovered:=false }]) cs) w
 | _,w=>.ended (.stuck "" "") w
def CQ (l:List Item):Prop:=l = []\/∃ i t,l=i::t/\∀ d b r s,i ≠ .call d b r s
theorem RY {s:Bool} {l l':List Item} (h:TR P k B s l l'):CQ l/\CQ l':=by
 cases h with
 | nil=>exact⟨.inl rfl,.inl rfl⟩
 | stop _ _ hk=>obtain⟨c,K,hk⟩:=hk;exact⟨.inr ⟨_,_,rfl,fun _ _ _ _ h=>by cases h⟩,.inr ⟨_,_,hk,fun _ _ _ _ h=>by cases h⟩⟩
 | cons hi _=>cases hi<;>exact⟨.inr ⟨_,_,rfl,fun _ _ _ _ h=>by cases h⟩,.inr ⟨_,_,rfl,fun _ _ _ _ h=>by cases h⟩⟩
theorem JJ {fr:Frame} {cs:List Frame} {s:Sem Next} {w w':World} {y:Except Value Next} {es:Array Event} (hk:fr.kind = .normal) (hc:CQ fr.todo)
  (hy:(∃ v,y = .ok (.value v))\/y = .ok .skip\/(∃ f xs,y = .ok (.enter f xs))\/(∃ l f xs c d,y = .ok (.round l f xs c d))\/∃ v,y = .error v) (h:s.runT P w #[]=(res y w',es)) :
  stepG.apply P true fr cs none s w=GStep.after (seen P fr.fn es) (Cg P fr cs y w'):=by
 have hk':(fr.kind==CallKind.early)=false:=by rw[hk];rfl
 rcases hy with⟨v,rfl⟩ | rfl | ⟨f,xs,rfl⟩|⟨l,f,xs,c,d,rfl⟩|⟨v,rfl⟩<;>simp only[stepG.apply,if_true,h,res,hk',Bool.false_eq_true,if_false,Cg,Conc.G];all_goals
  rcases hc with hc | ⟨i,t,hc,hi⟩
  ·simp only[hc]
  ·cases i<;>simp only[hc]<;>exact absurd rfl (hi _ _ _ _)
theorem FB {K:Cs} {x y:Except Value Next} (h:XR F (NR F K) B x y) :
  ((∃ v,x = .ok (.value v))\/x = .ok .skip\/(∃ f xs,x = .ok (.enter f xs))\/(∃ l f xs c d,x = .ok (.round l f xs c d))\/∃ v,x = .error v) /\
  ((∃ v,y = .ok (.value v))\/y = .ok .skip\/(∃ f xs,y = .ok (.enter f xs))\/(∃ l f xs c d,y = .ok (.round l f xs c d))\/∃ v,y = .error v):=by
 cases x with
 | error v=>cases y with
  | error v'=>exact⟨.inr (.inr (.inr (.inr ⟨v,rfl⟩))),.inr (.inr (.inr (.inr ⟨v',rfl⟩)))⟩
  | ok b=>exact h.elim
 | ok a=>cases y with
  | error v'=>exact h.elim
  | ok b=>
   cases (show NR F K B a b from h) with
   | value h=>exact⟨.inl ⟨_,rfl⟩,.inl ⟨_,rfl⟩⟩
   | skip=>exact⟨.inr (.inl rfl),.inr (.inl rfl)⟩
   | enter h h'=>exact⟨.inr (.inr (.inl ⟨_,_,rfl⟩)),.inr (.inr (.inl ⟨_,_,rfl⟩))⟩
   | round h h' a b c=>exact⟨.inr (.inr (.inr (.inl ⟨_,_,_,_,_,rfl⟩))),.inr (.inr (.inr (.inl ⟨_,_,_,_,_,rfl⟩)))⟩
theorem yM {s:Sem Next} {w w':World} {h:Halt} (e:s.run P w = .halt h w'):∃ es,s.runT P w #[]=(.halt h w',es):=by
 have h1:(s.runT P w #[]).1 = .halt h w':=by rw[gZ,e]
 generalize hr:s.runT P w #[]=r at h1;obtain⟨r1,es⟩:=r;dsimp only at h1;subst h1;exact⟨es,rfl⟩
theorem JL {fr:Frame} {cs:List Frame} {s:Sem Next} {w w':World} {h:Halt} (hb:Bad h) (e:s.run P w = .halt h w'):∃ o w'',(stepG.apply P true fr cs none s w).bare = .ended o w'':=by
 obtain⟨es,hr⟩:=yM e;cases h with
 | stuck s=>exact⟨.stuck s (fr.pos P),w',by simp only[stepG.apply,if_true,hr];exact bare_after⟩
 | unsupported u=>cases u<;>first | exact hb.elim | exact⟨.unsupported _ (fr.pos P),w',by simp only[stepG.apply,if_true,hr];exact bare_after⟩
 | _=>exact hb.elim
theorem CR {s:Bool} (S:Setup F P k) {f:Nat} (hf:F.fn f) {xs ys:Array Value} (h:aH F B xs ys):FR F P k B s (Frame.enter P f xs .normal) (Frame.enter P f ys .normal):=by
 obtain⟨fn,c,h1,h2,h3,h4⟩:=S.bodies f hf;refine⟨rfl,rfl,rfl,?_,?_,.nil,.run,.none,.inl hf⟩
 ·simp only[Frame.enter,h1,Option.map_some,Option.getD_some];rw[h.1];exact h.append (.replicate _ jQ)
 ·simp only[Frame.enter,h1,Option.bind_some,h3,Option.getD_some];exact .cons (.code h4) .nil
theorem CS (S:Setup F P k) {fL fC:Frame} {bK eu cs0:List Frame} (hS:gJ F P k B (fL::bK) (fC::eu)) {s s':Sem Next} (hs:SR F (KK P k) P (NR F (KK P k)) B s s') {wL wC:World} {hL:Array Obj} (H:HR F (KK P k) base B hL wC.heap) :
  sK F P k base B cs0 (stepG.apply P true fC (eu++cs0) none s' wC) (fun tail w=>stepG.apply P true fL (bK++tail) none s w) wL hL wC:=by
 have ht:=hS.top;have hn:=RY ht.todo;refine oQ hs H (Cg P fC (eu++cs0)) (fun tail=>Cg P fL (bK++tail)) fC.fn ?_ ?_ ?_ ?_
 ·intro B' x y hL' hC' n e hx H';cases x with
  | error v=>cases y with
   | ok b=>exact hx.elim
   | error v'=>
    have hr:=rJ (l:=[{ v,recovered:=false }]) (l':=[{ v:=v',recovered:=false }]) (ht.mono e) (.cons (show VR F B' v v' from hx) .nil);exact fu H' (hS.turn e hr.1 hr.2) rfl fun _ _=>rfl
  | ok a=>cases y with
   | error v'=>exact hx.elim
   | ok b=>
    cases (show NR F (KK P k) B' a b from hx) with
    | value hv=>
     have hr:=rH (ht.mono e) hv;exact fu H' (hS.turn e hr.1 hr.2) rfl fun _ _=>rfl
    | skip=>
     have hr:=rH (ht.mono e) jQ;exact fu H' (hS.turn e hr.1 hr.2) rfl fun _ _=>rfl
    | enter hf hv=>exact fu H' (hS.push e (CR S hf hv)) rfl fun _ _=>rfl
    | @round l l' f xs ys c d hl hv hc hd hf=>
     exact fu H' (hS.push e (g:=Frame.round l f xs c d .normal) (g':=Frame.round l' f ys c d .normal) ⟨rfl,rfl,rfl,hv,.cons (.code hc) (.cons .beginRound (.cons (.code hd) .nil)),.nil,.run,.some hl,hf⟩) rfl fun _ _=>rfl
 ·intro y w es hy hr;obtain⟨B',x,hx⟩:=hy;exact JJ ht.kd' hn.2 (FB hx).2 hr
 ·intro tail x w w' hx hr;obtain⟨B',y,hx⟩:=hx;have h1:(s.runT P w #[]).1=res x w':=by rw[gZ,hr]
  have h2:s.runT P w #[]=(res x w',(s.runT P w #[]).2):=by rw[<-h1]
  rw[JJ ht.kd hn.1 (FB hx).1 h2,bare_after]
 ·intro tail h w w' T hb hr;cases hb with
  | bad hb=>exact .inl (JL hb hr)
  | lost hv e H'=>
   obtain⟨es,hr⟩:=yM hr;have hq:=rJ (l:=[{ v:=_,recovered:=false }]) (l':=[{ v:=_,recovered:=false }]) (ht.mono e) (.cons hv .nil);exact .inr ⟨_,_,bK,_,eu,_,_,_,by simp only[stepG.apply,if_true,hr];exact bare_after,hS.turn e hq.1 hq.2,H',lQ _ _⟩
end Px
namespace Px
open Go
variable {F:Fs} {P:Program} {k:Ok} {base:Nat} {B:Bl}
theorem sM {K:Cs} {l l':Nat} (h:B l l'):SR F K P (fun B r r'=>OR F K B (.loop r) (.loop r')/\B l l') B (Instr.getLoop l) (Instr.getLoop l'):=by
 refine SR.bind (Q:=fun B o o'=>OR F K B o o'/\B l l') (.getObj h fun o o' ho=>.pure ⟨ho,h⟩) fun B2 o o' e ho=>?_
 obtain⟨ho,hl⟩:=ho;cases ho with
 | loop a b c d f g i j k l m n=>exact .pure ⟨.loop a b c d f g i j k l m n,hl⟩
 | _=>exact ay
theorem xJ {K:Cs} {l l':Nat} {r r':Loop} (h:B l l') (hr:OR F K B (.loop r) (.loop r')):SR F K P (fun _ _ _=>True) B (setObj l (.loop r)) (setObj l' (.loop r')):=
 .setObj h hr (fun _ _ _ h=>by cases h) (.pure trivial)
theorem JM {K:Cs} {l l':Nat} (h:B l l') (j:Option Code) (hj:∀ c,j=some c->K c):SR F K P (VQ F) B (Instr.endRound l j) (Instr.endRound l' j):=by
 refine (sM h).bind fun B1 r r' e hr=>?_
 obtain⟨hr,hl⟩:=hr;refine SR.bind (Q:=fun _ _ _=>True) (xJ hl ?_) fun B2 _ _ _ _=>.pure (.bool _)
 cases hr with
 | loop a b c d f g i j k l m n=>exact .loop rfl rfl c d f g i j k l hj n
theorem MC {K:Cs} {l l':Nat} (h:B l l'):SR F K P (fun _ a b=>a=b/\∀ c,a=some c->K c) B (Instr.endLoop l) (Instr.endLoop l'):=by
 refine (sM h).bind fun B1 r r' e hr=>?_
 obtain⟨hr,hl⟩:=hr;cases hr with
 | loop a b c d f g i j k l m n=>
  rw[<-a];have tl:∀ {A A':Type} {Q:Bl->A->A'->Prop} {x:String},SR F K P Q B1 (runtimePanic (.error x):Sem A) (runtimePanic (.error x):Sem A'):=bH _ (.inr (.inl ⟨_,rfl⟩));by_cases hs:(r.state == .busy)=true
  ·simp only[hs,if_true];first | exact tl | exact SR.bind (Q:=fun _ _ _=>False) tl fun _ _ _ _ x=>x.elim
  ·simp only[hs];exact SR.bind (Q:=fun _ _ _=>True) (xJ (r:={ r with state:=.exhausted }) (r':={ r' with state:=.exhausted }) hl (.loop rfl b c d f g i j k l m n)) fun B2 _ _ _ _=>.pure ⟨b,m⟩
theorem EI {K:Cs} {l l':Nat} (h:B l l'):SR F K P (fun _ _ _=>True) B (Instr.beginRound l) (Instr.beginRound l'):=by
 refine (sM h).bind fun B1 r r' e hr=>?_
 obtain⟨hr,hl⟩:=hr;cases hr with
 | loop a b c d f g i j k l m n=>
  refine SR.bind (Q:=fun _ _ _=>True) (xJ (r:={ r with state:=.busy }) (r':={ r' with state:=.busy }) hl (.loop rfl b c d f g i j k l m n)) fun B2 _ _ _ _=>?_
  rw[<-a];cases r.state with
  | ready=>exact .pure trivial
  | _=>exact bH _ (.inr (.inl ⟨_,rfl⟩))
theorem BU {K:Cs} {l l':Nat} (h:B l l'):SR F K P (fun B a b=>kH B a b) B (Instr.takeDeferred l) (Instr.takeDeferred l'):=by
 refine SR.bind (Q:=fun B o o'=>OR F K B o o'/\B l l') (.getObj h fun o o' ho=>.pure ⟨ho,h⟩) fun B2 o o' e ho=>?_
 obtain⟨ho,hl⟩:=ho;cases ho with
 | deferred hd=>exact SR.bind (Q:=fun B _ _=>kH B _ _) (.setObj hl .taken (fun _ _ _ h=>by cases h) (.pure hd)) fun B3 _ _ _ hd=>.pure hd
 | _=>exact ay
theorem FC {K:Cs} {f:Nat} (hf:F.fk f) {ts ts':Array Value} (h:aH F B ts ts') (ps:Array Tmp) {a b:Code} (ha:K a) (hb:K b) {x y:Nat} (hd:B x y) :
  OR F K B (.loop { state:=.ready,pending:=none,fn:=f,tmps:=ts,params:=ps,assign:=a,body:=b,defers:=x }) (.loop { state:=.ready,pending:=none,fn:=f,tmps:=ts',params:=ps,assign:=a,body:=b,defers:=y }):=
 .loop rfl rfl rfl h rfl rfl rfl hd ha hb (fun _ hc=>nomatch hc) hf
theorem Gx {K:Cs} {f:Nat} (hf:F.fk f) {ts ts':Array Value} (h:aH F B ts ts') (ps:Array Tmp) {a b:Code} (ha:K a) (hb:K b) {ro ro':Option Nat} (hr:RR B ro ro') :
  SR F K P (fun B x y=>B x.1 y.1/\kH B x.2 y.2) B (Instr.enterLoop f ts ps a b ro) (Instr.enterLoop f ts' ps a b ro'):=by
 unfold Instr.enterLoop;cases hr with
 | some hl=>
  refine (sM hl).bind fun B1 r r' e hr=>?_
  obtain⟨hr,_⟩:=hr;cases hr with
  | loop _ _ _ _ _ _ _ j _ _ _ _=>
   refine SR.bind (Q:=fun B x y=>B x.1 y.1/\kH B x.2 y.2) (.pure ⟨j,.nil⟩) fun B2 x y e2 hxy=>?_
   obtain⟨x1,x2⟩:=x;obtain⟨y1,y2⟩:=y;obtain⟨h1,h2⟩:=hxy;refine SR.bind (Q:=fun B r r'=>B r r'/\kH B x2 y2) (.new (FC hf ((h.mono e).mono e2) ps ha hb h1) fun r r' B' e hr _=>.pure ⟨hr,h2.mono e⟩) fun B3 r r' _ hr=>.pure hr
 | none=>
  refine SR.bind (Q:=fun B r r'=>B r r') (.new (.deferred .nil) fun r r' B' _ hr _=>.pure hr) fun B1 r r' e hr=>?_
  refine SR.bind (Q:=fun B x y=>B x.1 y.1/\kH B x.2 y.2) (.pure ⟨hr,.cons (.mark hr) .nil⟩) fun B2 x y e2 hxy=>?_
  obtain⟨x1,x2⟩:=x;obtain⟨y1,y2⟩:=y;obtain⟨h1,h2⟩:=hxy;refine SR.bind (Q:=fun B r r'=>B r r'/\kH B x2 y2) (.new (FC hf ((h.mono e).mono e2) ps ha hb h1) fun r r' B' e hr _=>.pure ⟨hr,h2.mono e⟩) fun B3 r r' _ hr=>.pure hr
theorem ME {K:Cs} (fn:Func) {xs ys:Array Value} (h:aH F B xs ys):SR F K P (VQ F) B (results fn xs) (results fn ys):=by
 refine (Ov (R:=VQ F) (fun _ _ _ _ e h=>h.mono e) fn.results fun r _ B' e=>?_).bind fun B1 us vs e hu=>?_
 ·cases r with
  | tmp t=>exact .pure ((h.mono e).getD t jQ)
  | cell a t=>exact (zV ((h.mono e).getD a jQ)).bind fun _ _ _ _ ha=>mH t ha
 ·have hv:aH F B1 us vs:=aH.of_get? hu.1 hu.2;by_cases hs:us.size=1
  ·have hs':vs.size=1:=hv.1 ▸ hs;rw[dif_pos hs,dif_pos hs'];exact .pure (hv.2 0 (by omega) (by omega))
  ·have hs':¬ vs.size=1:=hv.1 ▸ hs;rw[dif_neg hs,dif_neg hs'];exact .pure hv.tuple
theorem Qe {s:Bool} {id:Nat} {l l':List Item} (h:TR P k B s l l'):(exitTo id l=none/\(exitTo id l'=none\/s=true))\/∃ m m',exitTo id l=some m/\exitTo id l'=some m'/\TR P k B s m m':=by
 induction h with
 | nil=>exact .inl ⟨rfl,.inl rfl⟩
 | stop hs hr _=>obtain⟨w,rfl⟩:=hr;exact .inl ⟨rfl,.inr hs⟩
 | @cons i i' l l' hi hl ih=>
  cases hi with
  | inBlock id'=>
   simp only[exitTo];by_cases he:(id'==id)=true
   ·rw[if_pos he,if_pos he];exact .inr ⟨_,_,rfl,rfl,hl⟩
   ·rw[if_neg he,if_neg he];exact ih
  | _=>exact ih
end Px
namespace Px
open Go
variable {F:Fs} {P:Program} {k:Ok} {base:Nat} {B:Bl}
theorem RZ {fL fC:Frame} {bK eu cs0:List Frame} (hS:gJ F P k B (fL::bK) (fC::eu)) (hne:bK ≠ []) {m:Bool} {wL wC:World} {hL:Array Obj} (H:HR F (KK P k) base B hL wC.heap) {v v':Value} (hv:VR F B v v') :
  sK F P k base B cs0 (doReturn P m fC (eu++cs0) none v' wC) (fun tail w=>doReturn P true fL (bK++tail) none v w) wL hL wC:=by
 cases hS with
 | bot=>exact absurd rfl hne
 | cons h ht=>
  have kd:=h.kd;have kd':=h.kd';cases ht with
  | bot h2 h0=>
   have hr:=rH h2 hv;exact fu H (.bot hr.1 (hr.2.trans h0)) (by simp[doReturn,kd',Conc.G]) fun tail w=>by simp[doReturn,kd,GStep.bare,Conc.G]
  | cons h2 ht2=>
   have hr:=rH h2 hv;exact fu H (.cons hr.1 ht2) (by simp[doReturn,kd',Conc.G]) fun tail w=>by simp[doReturn,kd,GStep.bare,Conc.G]
theorem CU {fL fC:Frame} {bK eu cs0:List Frame} (hS:gJ F P k B (fL::bK) (fC::eu)) {m:Bool} {wL wC:World} {hL:Array Obj} (H:HR F (KK P k) base B hL wC.heap) {l l':Nat} (hl:fL.roundOf=some l) (_:fC.roundOf=some l') (hb:B l l') (j:Option Code) (hj:∀ c,j=some c->KK P k c)
  {nu:GStep} {j6:List Frame->World->GStep}
  (eC:nu=(let (r,es):=(Instr.endRound l' j).runT P wC #[];GStep.after (seen P fC.fn es) <| match r with
    | .ok v w=>doReturn P m fC (eu++cs0) none v w
    | .halt _ w=>.ended (.stuck "range over a function: no such loop" (fC.pos P)) w))
  (eL:∀ tail w,j6 tail w=(let (r,es):=(Instr.endRound l j).runT P w #[];GStep.after (seen P fL.fn es) <| match r with
    | .ok v w=>doReturn P true fL (bK++tail) none v w
    | .halt _ w=>.ended (.stuck "range over a function: no such loop" (fL.pos P)) w)):sK F P k base B cs0 nu j6 wL hL wC:=by
 have hne:bK ≠ []:=by
  intro h;subst h;cases hS with
  | bot _ h0=>rw[h0] at hl;cases hl
  | cons _ ht=>cases ht
 have VZ:∀ tail w,(j6 tail w).bare=(match (Instr.endRound l j).run P w with
    | .ok v w=>doReturn P true fL (bK++tail) none v w
    | .halt _ w=>.ended (.stuck "range over a function: no such loop" (fL.pos P)) w:GStep).bare:=by
  intro tail w;rw[eL];dsimp only
  rw[bare_after,gZ]
 refine oQ (JM hb j hj) H (fun y w=>match y with | .ok v=>doReturn P m fC (eu++cs0) none v w | .error _=>.ended (.stuck "range over a function: no such loop" (fC.pos P)) w)
  (fun tail x w=>match x with | .ok v=>doReturn P true fL (bK++tail) none v w | .error _=>.ended (.stuck "range over a function: no such loop" (fL.pos P)) w) fC.fn ?_ ?_ ?_ ?_
 ·intro B' x y hL' hC' n e hx H';cases x with
  | error v=>exact⟨0,.inr fun _ _ _ _=>.inl ⟨_,_,rfl⟩⟩
  | ok v=>cases y with
   | error v'=>exact hx.elim
   | ok v'=>exact RZ (hS.mono e) hne H' hx
 ·intro y w es _ hr;rw[eC,hr];cases y<;>rfl
 ·intro tail x w w' _ hr;rw[VZ,hr];cases x<;>rfl
 ·intro tail h w w' T hb hr;exact .inl ⟨.stuck "range over a function: no such loop" (fL.pos P),w',by rw[VZ,hr];rfl⟩
end Px
namespace Px
open Go
variable {F:Fs} {P:Program} {k:Ok} {base:Nat} {B:Bl}
theorem CV {ops:Array Oper} {xs ys:Array Value} (h:aH F B xs ys):yielded ops xs=yielded ops ys:=by
 funext j;unfold yielded;cases (ops[j]?).bind (·.dst) with
 | none=>rfl
 | some d=>
  simp only[Option.bind_some];rcases h.get? d with⟨a,b⟩|⟨v,v',a,b,r⟩
  ·rw[a,b]
  ·rw[a,b];cases r with
   | junk hj=>cases v'<;>first | rfl | exact absurd rfl (hj.2.2.2.2.2.1 _)
   | _=>rfl
theorem MF (S:Setup F P k) (hn:∀ f,F.ex f->HN F P B) {v v':Value} (h:VR F B v v') {xs ys:Array Value} (hx:aH F B xs ys):SR F (KK P k) P (NR F (KK P k)) B (do let d <-Deferred.ofValue v xs;invoke d.target d.args) (do let d <-Deferred.ofValue v' ys;invoke d.target d.args):=by
 cases h with
 | func hf h1 h2 h3 h4=>exact uz S.bd S.ext hn hf ((aH.append ⟨h1,h3⟩ hx).append ⟨h2,h4⟩)
 | yield hl=>
  refine JE hl ?_;simpa using hx
 | nilFunc=>exact bH _ (.inr (.inr rfl))
 | lI=>exact Fz S.bt
 | _=>exact .bad trivial
theorem UZ (S:Setup F P k) (hgl:GB F P k B) {fL fC:Frame} {bK eu cs0:List Frame} (hS:gJ F P k B (fL::bK) (fC::eu)) (hm:fL.mode = .run) {m:Bool} {wL wC:World} {hL:Array Obj} (H:HR F (KK P k) base B hL wC.heap) :
  yL F P k base B m fL bK fC eu cs0 wL hL wC:=by
 have h:=hS.top;have hm':fC.mode = .run:=by
  have:=h.mode;rw[hm] at this;cases hc:fC.mode with
  | run=>rfl
  | _=>rw[hc] at this;cases this
 have hev:=UY hgl.gl S.fns h;unfold yL;simp only[AZ hm,AZ hm'];obtain⟨fn,ts,todo,ds,md,kd,ro⟩:=fL;obtain⟨fn',ts',todo',ds',md',kd',ro'⟩:=fC;obtain⟨h1,h2,h3,h4,h5,h6,h7,h8,h9⟩:=h;dsimp only at h1 h2 h3 h4 h5 h6 h7 h8 h9 hm hm';subst h1 h2 h3 hm hm';have tot:∀ {t t':List Item},TR P k B bK.isEmpty t t'->gJ F P k B ({ fn:=fn,tmps:=ts,todo:=t,defers:=ds,mode:=.run,kind:=.normal,roundOf:=ro }::bK) ({ fn:=fn,tmps:=ts',todo:=t',defers:=ds',mode:=.run,kind:=.normal,roundOf:=ro' }::eu):=
  fun ht=>hS.turn (Ext.refl _) ⟨rfl,rfl,rfl,h4,ht,h6,.run,h8,h9⟩ rfl
 have ret:gJ F P k B ({ fn:=fn,tmps:=ts,todo:=todo,defers:=ds,mode:=.returning,kind:=.normal,roundOf:=ro }::bK) ({ fn:=fn,tmps:=ts',todo:=todo',defers:=ds',mode:=.returning,kind:=.normal,roundOf:=ro' }::eu):=
  hS.turn (Ext.refl _) ⟨rfl,rfl,rfl,h4,h5,h6,.returning,h8,h9⟩ rfl
 cases h5 with
 | nil=>
  cases h8 with
  | none=>exact fu H ret (by simp[stepG.exec,Conc.G]) fun tail w=>by simp[stepG.exec,Conc.G,GStep.bare]
  | some hb=>exact CU hS H rfl rfl hb none (fun _ h=>nomatch h) (by simp only[stepG.exec];rfl) fun tail w=>by simp only[stepG.exec];rfl
 | stop _ hr _=>
  obtain⟨why,rfl⟩:=hr;exact⟨0,.inr fun tail T d _=>.inl ⟨_,_,by simp only[stepG.exec];rfl⟩⟩
 | @cons i i' t t' hi ht=>
  cases hi with
  | @code c hc=>
   cases c with
   | skip=>exact fu H (tot ht) (by simp[stepG.exec,Conc.G]) fun tail w=>by simp[stepG.exec,Conc.G,GStep.bare]
   | label l=>exact fu H (tot ht) (by simp[stepG.exec,Conc.G]) fun tail w=>by simp[stepG.exec,Conc.G,GStep.bare]
   | ret=>
    cases h8 with
    | none=>exact fu H ret (by simp[stepG.exec,Conc.G]) fun tail w=>by simp[stepG.exec,Conc.G,GStep.bare]
    | some hb=>exact CU hS H rfl rfl hb (some .ret) (fun _ h=>by cases h;rfl) (by simp only[stepG.exec];rfl) fun tail w=>by simp only[stepG.exec];rfl
   | seq a b=>
    simp only[KK,cK,Bool.and_eq_true] at hc;exact fu H (tot (.cons (.code hc.1) (.cons (.code hc.2) ht))) (by simp[stepG.exec,Conc.G]) fun tail w=>by simp[stepG.exec,Conc.G,GStep.bare]
   | block id c=>exact fu H (tot (.cons (.code (c:=c) hc) (.cons (.inBlock id) ht))) (by simp[stepG.exec,Conc.G]) fun tail w=>by simp[stepG.exec,Conc.G,GStep.bare]
   | loop c=>exact fu H (tot (.cons (.code (c:=c) hc) (.cons (.inLoop (c:=c) hc) ht))) (by simp[stepG.exec,Conc.G]) fun tail w=>by simp[stepG.exec,Conc.G,GStep.bare]
   | scope c=>exact fu H (tot (.cons (.code (c:=c) hc) (.cons (.inScope (c:=c) hc) ht))) (by simp[stepG.exec,Conc.G]) fun tail w=>by simp[stepG.exec,Conc.G,GStep.bare]
   | goto l=>simp[KK,cK] at hc
   | refuse w=>simp[KK,cK] at hc
   | cond c a b=>
    simp only[KK,cK,Bool.and_eq_true] at hc;have hv:=hev c hc.1.1;by_cases hb:∃ x,Frame.eval { fn:=fn,tmps:=ts,todo:=.code (.cond c a b)::t,defers:=ds,mode:=.run,kind:=.normal,roundOf:=ro } c = .bool x
    ·obtain⟨x,hx⟩:=hb;rw[hx] at hv;have hx':Frame.eval { fn:=fn,tmps:=ts',todo:=.code (.cond c a b)::t',defers:=ds',mode:=.run,kind:=.normal,roundOf:=ro' } c = .bool x:=by
      generalize Frame.eval _ c=y at hv;cases hv;rfl
     refine fu H (tot (.cons (.code (c:=if x then a else b) ?_) ht)) (by simp only[stepG.exec,hx',Conc.G]) fun tail w=>by simp only[stepG.exec,hx,Conc.G,GStep.bare]
     cases x
     ·exact hc.2
     ·exact hc.1.2
    ·refine⟨0,.inr fun tail T d _=>?_⟩;simp only[stepG.exec];generalize hy:Frame.eval _ c=y at hb;cases y<;>first | exact absurd ⟨_,rfl⟩ hb | exact .inl ⟨_,_,rfl⟩
   | exit id=>
    rcases Qe (id:=id) ht with⟨e1,e2⟩|⟨u,u',e1,e2,hu⟩
    ·cases h8 with
     | none=>exact⟨0,.inr fun tail T d _=>.inl ⟨.stuck "exit, goto: no such block or label" _,_,by simp only[stepG.exec,e1,Option.elim_none];rfl⟩⟩
     | some hb=>
      have e2:=e2.resolve_right fun h=>by have:=hS.low h;cases this
      exact CU hS H rfl rfl hb (some (.exit id)) (fun _ h=>by cases h;rfl) (by simp only[stepG.exec,e2,Option.elim_none];rfl) fun tail w=>by simp only[stepG.exec,e1,Option.elim_none];rfl
    ·exact fu H (tot hu) (by simp[stepG.exec,Conc.G,e2]) fun tail w=>by simp[stepG.exec,Conc.G,GStep.bare,e1]
   | region id ops draw=>
    cases draw with
    | false=>exact fu H (tot (.cons (.inRegion (ops:=ops) (List.range ops.size) hc) ht)) (by simp[stepG.exec,Conc.G]) fun tail w=>by simp[stepG.exec,Conc.G,GStep.bare]
    | true=>
     refine⟨1,.inl ⟨_,bK,_,eu,B,hL,wC.heap,#[],?_,tot (.cons (.inRegion (ops:=ops) (Region.schedule (P.follows .mixedOrders) ops (wC.tape wC.drawn (.order fn id))) hc) ht),Ext.refl _,H,Fr.refl _ _ _,fH.nil,fun tail T d hT=>?_⟩⟩
     ·simp[stepG.exec,Conc.G,choose,Sem.run,Question.forced,Question.cut,at_]
     ·have hT0:T d=wC.tape wC.drawn:=hT 0 (by omega);simp[stepG.exec,Conc.G,choose,Sem.run,Question.forced,Question.cut,at_,GStep.bare,hT0]
   | rangeFunc f ps a b=>
    simp only[KK,cK,Bool.and_eq_true] at hc;obtain⟨⟨hf,ha⟩,hb⟩:=hc;refine oQ (Gx (K:=KK P k) h9 h4 ps ha hb h8) H (fun y w=>match y with
      | .ok (l,mark)=>stepG.apply P true { fn:=fn,tmps:=ts',todo:=.inRangeFunc l::t',defers:=mark++ds',mode:=.run,kind:=.normal,roundOf:=ro' } (eu++cs0) none
        (do let d <-Deferred.ofValue (Frame.eval { fn:=fn,tmps:=ts',todo:=.inRangeFunc l::t',defers:=mark++ds',mode:=.run,kind:=.normal,roundOf:=ro' } f) #[.func (.yield l) #[] #[]];invoke d.target d.args) w
      | .error _=>.ended (.stuck "range over a function: no such loop" (Frame.pos P { fn:=fn,tmps:=ts',todo:=.code (.rangeFunc f ps a b)::t',defers:=ds',mode:=.run,kind:=.normal,roundOf:=ro' })) w)
     (fun tail x w=>match x with
      | .ok (l,mark)=>stepG.apply P true { fn:=fn,tmps:=ts,todo:=.inRangeFunc l::t,defers:=mark++ds,mode:=.run,kind:=.normal,roundOf:=ro } (bK++tail) none
        (do let d <-Deferred.ofValue (Frame.eval { fn:=fn,tmps:=ts,todo:=.inRangeFunc l::t,defers:=mark++ds,mode:=.run,kind:=.normal,roundOf:=ro } f) #[.func (.yield l) #[] #[]];invoke d.target d.args) w
      | .error _=>.ended (.stuck "range over a function: no such loop" (Frame.pos P { fn:=fn,tmps:=ts,todo:=.code (.rangeFunc f ps a b)::t,defers:=ds,mode:=.run,kind:=.normal,roundOf:=ro })) w) fn ?_ ?_ ?_ ?_
    ·intro B' x y hL' hC' n e hx H';cases x with
     | error v=>exact⟨0,.inr fun _ _ _ _=>.inl ⟨_,_,rfl⟩⟩
     | ok x=>cases y with
      | error v'=>exact hx.elim
      | ok y=>
       obtain⟨l,mk⟩:=x;obtain⟨l',mk'⟩:=y;obtain⟨hl,hmk⟩:=(show B' l l'/\kH B' mk mk' from hx);have hfr:FR F P k B' bK.isEmpty { fn:=fn,tmps:=ts,todo:=.inRangeFunc l::t,defers:=mk++ds,mode:=.run,kind:=.normal,roundOf:=ro } { fn:=fn,tmps:=ts',todo:=.inRangeFunc l'::t',defers:=mk'++ds',mode:=.run,kind:=.normal,roundOf:=ro' }:=
        ⟨rfl,rfl,rfl,h4.mono e,.cons (.inRangeFunc hl) (ht.mono e),hmk.append (h6.mono e),.run,h8.mono e,h9⟩
       exact CS S (hS.turn e hfr rfl) (MF S (fun f hf=>(hgl.ex f hf).mono e) ((hev f hf).mono e) (.one (.yield hl))) H'
    ·intro y w es _ hr;simp only[stepG.exec,hr];cases y<;>simp only[res,resolve,List.map_toArray,List.map_cons,List.map_nil,Frame.eval]
    ·intro tail x w w' _ hr;have h1:((Instr.enterLoop fn ts ps a b ro).runT P w #[]).1=res x w':=by rw[gZ,hr]
     generalize hg:(Instr.enterLoop fn ts ps a b ro).runT P w #[]=g at h1;obtain⟨g1,g2⟩:=g;dsimp only at h1;subst h1;simp only[stepG.exec,hg,bare_after];cases x<;>simp only[res,resolve,List.map_toArray,List.map_cons,List.map_nil,Frame.eval]
    ·intro tail h w w' T hb hr;have h1:((Instr.enterLoop fn ts ps a b ro).runT P w #[]).1 = .halt h w':=by rw[gZ,hr]
     generalize hg:(Instr.enterLoop fn ts ps a b ro).runT P w #[]=g at h1;obtain⟨g1,g2⟩:=g;dsimp only at h1;subst h1;exact .inl ⟨.stuck "range over a function: no such loop" _,w',by simp only[stepG.exec,hg,bare_after];rfl⟩
  | inBlock id=>exact fu H (tot ht) (by simp[stepG.exec,Conc.G]) fun tail w=>by simp[stepG.exec,Conc.G,GStep.bare]
  | inScope hc=>exact fu H (tot ht) (by simp[stepG.exec,Conc.G]) fun tail w=>by simp[stepG.exec,Conc.G,GStep.bare]
  | inLoop hc=>exact fu H (tot (.cons (.code hc) (.cons (.inLoop hc) ht))) (by simp[stepG.exec,Conc.G]) fun tail w=>by simp[stepG.exec,Conc.G,GStep.bare]
  | inRangeFunc hb=>exact⟨0,.inr fun tail T d _=>.inl ⟨_,_,by simp only[stepG.exec];rfl⟩⟩
  | beginRound=>
   simp only[stepG.exec];refine CS S hS (Fq ?_) H;cases h8 with
   | none=>exact ay
   | some hb=>exact EI hb
  | @endRangeFunc l l' hb=>
   refine oQ (MC (K:=KK P k) hb) H (fun y w=>match y with
     | .ok j=>.go (Conc.G { fn:=fn,tmps:=ts',todo:=(j.map Item.code).toList++t',defers:=ds',mode:=.run,kind:=.normal,roundOf:=ro' } (eu++cs0)) w
     | .error v=>.go (Conc.G (Frame.raise { fn:=fn,tmps:=ts',todo:=.endRangeFunc l'::t',defers:=ds',mode:=.run,kind:=.normal,roundOf:=ro' } [{ v,recovered:=false }]) (eu++cs0)) w)
    (fun tail x w=>match x with
     | .ok j=>.go (Conc.G { fn:=fn,tmps:=ts,todo:=(j.map Item.code).toList++t,defers:=ds,mode:=.run,kind:=.normal,roundOf:=ro } (bK++tail)) w
     | .error v=>.go (Conc.G (Frame.raise { fn:=fn,tmps:=ts,todo:=.endRangeFunc l::t,defers:=ds,mode:=.run,kind:=.normal,roundOf:=ro } [{ v,recovered:=false }]) (bK++tail)) w) fn ?_ ?_ ?_ ?_
   ·intro B' x y hL' hC' n e hx H';cases x with
    | error v=>cases y with
     | ok y=>exact hx.elim
     | error v'=>
      have hr:=rJ (l:=[{ v,recovered:=false }]) (l':=[{ v:=v',recovered:=false }]) (hS.top.mono e) (.cons (show VR F B' v v' from hx) .nil);exact fu H' (hS.turn e hr.1 hr.2) rfl fun _ _=>rfl
    | ok x=>cases y with
     | error v'=>exact hx.elim
     | ok y=>
      obtain⟨rfl,hj⟩:=(show x=y/\∀ c,x=some c->KK P k c from hx);cases x with
      | none=>exact fu H' ((tot ht).mono e) rfl fun _ _=>rfl
      | some c=>exact fu H' (hS.turn e (g:={ fn:=fn,tmps:=ts,todo:=.code c::t,defers:=ds,mode:=.run,kind:=.normal,roundOf:=ro }) (g':={ fn:=fn,tmps:=ts',todo:=.code c::t',defers:=ds',mode:=.run,kind:=.normal,roundOf:=ro' }) ⟨rfl,rfl,rfl,h4.mono e,.cons (.code (hj c rfl)) (ht.mono e),h6.mono e,.run,h8.mono e,h9⟩ rfl) rfl fun _ _=>rfl
   ·intro y w es _ hr;simp only[stepG.exec,hr];cases y<;>rfl
   ·intro tail x w w' _ hr;have h1:((Instr.endLoop l).runT P w #[]).1=res x w':=by rw[gZ,hr]
    generalize hg:(Instr.endLoop l).runT P w #[]=g at h1;obtain⟨g1,g2⟩:=g;dsimp only at h1;subst h1;simp only[stepG.exec,hg,bare_after];cases x<;>rfl
   ·intro tail h w w' T hb hr;have h1:((Instr.endLoop l).runT P w #[]).1 = .halt h w':=by rw[gZ,hr]
    generalize hg:(Instr.endLoop l).runT P w #[]=g at h1;obtain⟨g1,g2⟩:=g;dsimp only at h1;subst h1;cases hb with
    | bad hb=>
     refine .inl ⟨.stuck "range over a function: no such loop" (Frame.pos P { fn:=fn,tmps:=ts,todo:=.endRangeFunc l::t,defers:=ds,mode:=.run,kind:=.normal,roundOf:=ro }),w',?_⟩;simp only[stepG.exec,hg,bare_after];cases h<;>first | rfl | exact hb.elim
    | lost hv e H'=>
     have hq:=rJ (l:=[{ v:=_,recovered:=false }]) (l':=[{ v:=_,recovered:=false }]) (hS.top.mono e) (.cons hv .nil);exact .inr ⟨_,_,bK,_,eu,_,_,_,by simp only[stepG.exec,hg,bare_after];rfl,hS.turn e hq.1 hq.2,H',lQ _ _⟩
  | @inRegion ops l ho=>
   cases l with
   | nil=>exact fu H (tot ht) (by simp[stepG.exec,Conc.G]) fun tail w=>by simp[stepG.exec,Conc.G,GStep.bare]
   | cons i rest=>
    by_cases hw:(((ops[i]?).map (Region.wanted · (yielded ops ts))).getD false)=true
    ·have hw':(((ops[i]?).map (Region.wanted · (yielded ops ts'))).getD false)=true:=by rw[<-CV h4];exact hw
     cases ho':ops[i]? with
     | none=>rw[ho'] at hw;simp at hw
     | some o=>
      have hok:iX P k o.op=true:=by
       simp only[Array.all_eq_true_iff_forall_mem] at ho;exact ho o (Array.mem_of_getElem? ho')
      have hnd:∀ c,o.op ≠ .defer c:=fun c hc=>by rw[hc] at hok;simp[iX] at hok
      rw[ho'] at hw hw';simp only[stepG.exec,stepG.oper,Frame.oper?,ho',hw,hw',if_true];have ha:=CS S hS (Qd S.bt S.bd S.ext hgl.ex S.G S.cm S.mt S.fns hev (fun w=>⟨rfl,rfl⟩) o hok) H (cs0:=cs0) (wL:=wL);obtain⟨dst,op,ty,pos,aft,grd⟩:=o;cases h8 with
      | none=>exact ha
      | some hb=>cases op<;>first | exact ha | exact absurd rfl (hnd _)
    ·have hw':¬ (((ops[i]?).map (Region.wanted · (yielded ops ts'))).getD false)=true:=by rw[<-CV h4];exact hw
     have hr:=rH hS.top (jQ (F:=F) (B:=B));exact fu H (hS.turn (Ext.refl _) hr.1 hr.2) (by simp only[stepG.exec,hw',Conc.G];rfl) fun tail w=>by simp only[stepG.exec,hw,Conc.G];rfl
end Px
namespace Px
open Go
variable {F:Fs} {P:Program} {k:Ok} {base:Nat} {B:Bl}
def AtEnd (f:Frame) (cs:List Frame):Prop:=cs = []/\f.defers = []/\f.mode ≠ .run
theorem jh {m:Bool} {f:Frame} {cs:List Frame} {w:World} (h:f.mode ≠ .run):stepG P m (Conc.G f cs) w=unwind P m f cs none w:=by
 obtain⟨fn,ts,td,ds,md,kd,ro⟩:=f;cases md with
 | run=>exact absurd rfl h
 | returning=>simp[stepG,Conc.G]
 | panicking c=>simp[stepG,Conc.G]
theorem U0 {m m':FrameMode} (h:MR F B m m'):m = .run↔m' = .run:=by
 cases h<;>exact⟨fun h=>by cases h<;>rfl,fun h=>by cases h<;>rfl⟩
theorem FD (S:Setup F P k) {fL fC:Frame} {bK eu cs0:List Frame} (hS:gJ F P k B (fL::bK) (fC::eu)) (hm:fL.mode ≠ .run) (hne:¬ AtEnd fL bK) {m:Bool} {wL wC:World} {hL:Array Obj} (H:HR F (KK P k) base B hL wC.heap) :
  yL F P k base B m fL bK fC eu cs0 wL hL wC:=by
 have h:=hS.top;have hm':fC.mode ≠ .run:=fun e=>hm ((U0 h.mode).2 e)
 unfold yL;simp only[jh hm,jh hm'];obtain⟨fn,ts,todo,ds,md,kd,ro⟩:=fL;obtain⟨fn',ts',todo',ds',md',kd',ro'⟩:=fC;obtain⟨h1,h2,h3,h4,h5,h6,h7,h8,h9⟩:=h;dsimp only at h1 h2 h3 h4 h5 h6 h7 h8 h9 hm hm';subst h1 h2 h3;cases h6 with
 | @cons d d' ds ds' hd hds=>
  cases hd with
  | @mark r r' hr=>
   refine oQ (BU (K:=KK P k) hr) H (fun y w=>match y with
     | .ok c=>.go (Conc.G { fn:=fn,tmps:=ts',todo:=todo',defers:=c++ds',mode:=md',kind:=.normal,roundOf:=ro' } (eu++cs0)) w
     | .error _=>.ended (.stuck "the deferred calls of a range-over-func loop have been taken" (Frame.pos P { fn:=fn,tmps:=ts',todo:=todo',defers:={ target:=.collected r',args:=#[] }::ds',mode:=md',kind:=.normal,roundOf:=ro' })) w)
    (fun tail x w=>match x with
     | .ok c=>.go (Conc.G { fn:=fn,tmps:=ts,todo:=todo,defers:=c++ds,mode:=md,kind:=.normal,roundOf:=ro } (bK++tail)) w
     | .error _=>.ended (.stuck "the deferred calls of a range-over-func loop have been taken" (Frame.pos P { fn:=fn,tmps:=ts,todo:=todo,defers:={ target:=.collected r,args:=#[] }::ds,mode:=md,kind:=.normal,roundOf:=ro })) w) fn ?_ ?_ ?_ ?_
   ·intro B' x y hL' hC' n e hx H';cases x with
    | error v=>exact⟨0,.inr fun _ _ _ _=>.inl ⟨_,_,rfl⟩⟩
    | ok x=>cases y with
     | error v'=>exact hx.elim
     | ok y=>
      have hxy:kH B' x y:=hx;exact fu H' (hS.turn e (g:={ fn:=fn,tmps:=ts,todo:=todo,defers:=x++ds,mode:=md,kind:=.normal,roundOf:=ro }) (g':={ fn:=fn,tmps:=ts',todo:=todo',defers:=y++ds',mode:=md',kind:=.normal,roundOf:=ro' })
       ⟨rfl,rfl,rfl,h4.mono e,h5.mono e,hxy.append (hds.mono e),h7.mono e,h8.mono e,h9⟩ rfl) rfl fun _ _=>rfl
   ·intro y w es _ hr;simp only[unwind,hr];cases y<;>rfl
   ·intro tail x w w' _ hr;have h1:((Instr.takeDeferred r).runT P w #[]).1=res x w':=by rw[gZ,hr]
    generalize hg:(Instr.takeDeferred r).runT P w #[]=g at h1;obtain⟨g1,g2⟩:=g;dsimp only at h1;subst h1;simp only[unwind,hg,bare_after];cases x<;>rfl
   ·intro tail h w w' T hb hr;have h1:((Instr.takeDeferred r).runT P w #[]).1 = .halt h w':=by rw[gZ,hr]
    generalize hg:(Instr.takeDeferred r).runT P w #[]=g at h1;obtain⟨g1,g2⟩:=g;dsimp only at h1;subst h1;exact .inl ⟨.stuck "the deferred calls of a range-over-func loop have been taken" (Frame.pos P { fn:=fn,tmps:=ts,todo:=todo,defers:={ target:=.collected r,args:=#[] }::ds,mode:=md,kind:=.normal,roundOf:=ro }),w',by simp only[unwind,hg,bare_after];rfl⟩
 | nil=>
  have hcs:bK ≠ []:=fun e=>hne ⟨e,rfl,hm⟩
  obtain⟨CW,g1⟩:=S.Mw h9;cases h7 with
  | run=>exact absurd rfl hm
  | panicking hp=>
   have hS2:=hS;cases hS with
   | bot=>exact absurd rfl hcs
   | cons h ht=>
    cases ht with
    | bot h2 h0=>
     have hr:=rJ h2 hp;exact fu H (.bot hr.1 (hr.2.trans h0)) (by simp[unwind,Frame.catches,g1,Conc.G]) fun tail w=>by simp[unwind,Frame.catches,g1,GStep.bare,Conc.G]
    | cons h2 ht2=>
     have hr:=rJ h2 hp;exact fu H (.cons hr.1 ht2) (by simp[unwind,Frame.catches,g1,Conc.G]) fun tail w=>by simp[unwind,Frame.catches,g1,GStep.bare,Conc.G]
  | returning=>
   refine oQ (ME (K:=KK P k) CW h4) H (fun y w=>match y with
     | .ok v=>doReturn P m { fn:=fn,tmps:=ts',todo:=todo',defers:=[],mode:=.returning,kind:=.normal,roundOf:=ro' } (eu++cs0) none v w
     | .error _=>.ended (.stuck "return: the result variables cannot be read" (Frame.pos P { fn:=fn,tmps:=ts',todo:=todo',defers:=[],mode:=.returning,kind:=.normal,roundOf:=ro' })) w)
    (fun tail x w=>match x with
     | .ok v=>doReturn P true { fn:=fn,tmps:=ts,todo:=todo,defers:=[],mode:=.returning,kind:=.normal,roundOf:=ro } (bK++tail) none v w
     | .error _=>.ended (.stuck "return: the result variables cannot be read" (Frame.pos P { fn:=fn,tmps:=ts,todo:=todo,defers:=[],mode:=.returning,kind:=.normal,roundOf:=ro })) w) fn ?_ ?_ ?_ ?_
   ·intro B' x y hL' hC' n e hx H';cases x with
    | error v=>exact⟨0,.inr fun _ _ _ _=>.inl ⟨_,_,rfl⟩⟩
    | ok x=>cases y with
     | error v'=>exact hx.elim
     | ok y=>exact RZ (hS.mono e) hcs H' hx
   ·intro y w es _ hr;simp only[unwind,g1,hr];cases y<;>rfl
   ·intro tail x w w' _ hr;have h1:((results CW ts).runT P w #[]).1=res x w':=by rw[gZ,hr]
    generalize hg:(results CW ts).runT P w #[]=g at h1;obtain⟨g1',g2'⟩:=g;dsimp only at h1;subst h1;simp only[unwind,g1,hg,bare_after];cases x<;>rfl
   ·intro tail h w w' T hb hr;have h1:((results CW ts).runT P w #[]).1 = .halt h w':=by rw[gZ,hr]
    generalize hg:(results CW ts).runT P w #[]=g at h1;obtain⟨g1',g2'⟩:=g;dsimp only at h1;subst h1;simp only[unwind,g1,hg];cases h<;>exact .inl ⟨_,_,rfl⟩
theorem U1 (S:Setup F P k) (hgl:GB F P k B) {fL fC:Frame} {bK eu cs0:List Frame} (hS:gJ F P k B (fL::bK) (fC::eu)) (hne:¬ AtEnd fL bK) {m:Bool} {wL wC:World} {hL:Array Obj} (H:HR F (KK P k) base B hL wC.heap) :
  yL F P k base B m fL bK fC eu cs0 wL hL wC:=by
 by_cases hm:fL.mode = .run
 ·exact UZ S hgl hS hm H
 ·exact FD S hS hm hne H
end Px
