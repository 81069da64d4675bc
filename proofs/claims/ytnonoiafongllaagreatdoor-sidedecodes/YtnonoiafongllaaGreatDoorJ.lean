import Derived.Test.YtnonoiafongllaaGreatDoorI
import Derived.Conc.Own
open List
namespace Px
open Go
def dR(P:Program)(k:Ok):Code->Bool
 | .skip | .exit _ | .label _ | .ret=>true
 | .region _ ops _=>ops.all (lJ P k ·.op)
 | .seq a b=>dR P k a&&dR P k b
 | .cond c a b=>okO k c&&dR P k a&&dR P k b
 | .block _ c | .loop c | .scope c=>dR P k c
 | .rangeFunc f _ a b=>okO k f&&dR P k a&&dR P k b
 | _=>false
def KK(P:Program)(k:Ok):Cs:=λc=>dR P k c=true
variable {F:Fs} {P:Program} {k:Ok} {B:Bl}
inductive IR (P:Program) (k:Ok) (B:Bl):Item->Item->Prop
 | code {c:Code}:KK P k c->IR P k B (.code c) (.code c)
 | inBlock (id:Nat):IR P k B (.inBlock id) (.inBlock id)
 | inLoop {c:Code}:KK P k c->IR P k B (.inLoop c) (.inLoop c)
 | inScope {c:Code}:KK P k c->IR P k B (.inScope c) (.inScope c)
 | inRegion {ops:Array Oper} (l:List Nat):ops.all (lJ P k ·.op)=true->IR P k B (.inRegion ops l) (.inRegion ops l)
 | inRangeFunc {l l':Nat}:B l l'->IR P k B (.inRangeFunc l) (.inRangeFunc l')
 | endRangeFunc {l l':Nat}:B l l'->IR P k B (.endRangeFunc l) (.endRangeFunc l')
 | beginRound:IR P k B .beginRound .beginRound
inductive TR (P:Program) (k:Ok) (B:Bl) (s:Bool):List Item->List Item->Prop
 | nil:TR P k B s [] []
 | cons {i i':Item} {l l':List Item}:IR P k B i i'->TR P k B s l l'->TR P k B s (i::l) (i'::l')
 | stop {r:Code}:s=true->(∃w,r = .refuse w)->(∃c K,k.K = .code c::K)->TR P k B s [.code r] k.K
theorem IR.mono{B H:Bl}(e:Ext B H){i I:Item}(h:IR P k B i I):IR P k H i I:=by
 cases h with
 | code h=>exact .code h
 | inBlock id=>exact .inBlock id
 | inLoop h=>exact .inLoop h
 | inScope h=>exact .inScope h
 | inRegion l h=>exact .inRegion l h
 | inRangeFunc h=>exact .inRangeFunc (e _ _ h)
 | endRangeFunc h=>exact .endRangeFunc (e _ _ h)
 | beginRound=>exact .beginRound
theorem TR.mono{s:Bool}{B H:Bl}(e:Ext B H){l l':List Item}(h:TR P k B s l l'):TR P k H s l l':=by
 induction h with
 | nil=>exact .nil
 | cons h _ ih=>exact .cons (h.mono e) ih
 | stop h h' h''=>exact .stop h h' h''
inductive PR (F:Fs) (B:Bl):List PanicEntry->List PanicEntry->Prop
 | nil:PR F B [] []
 | cons {v v':Value} {r g:Bool} {l l':List PanicEntry}:VR F B v v'->PR F B l l'->PR F B ({ v,recovered:=r,goexit:=g }::l) ({ v:=v',recovered:=r,goexit:=g }::l')
theorem PR.mono{B H:Bl}(e:Ext B H){l l':List PanicEntry}(h:PR F B l l'):PR F H l l':=by
 induction h with
 | nil=>exact .nil
 | cons h _ ih=>exact .cons (h.mono e) ih
theorem PR.append{l l' m e:List PanicEntry}(h:PR F B l l')(h':PR F B m e):PR F B (l++m) (l'++e):=by
 induction h with
 | nil=>exact h'
 | cons h _ ih=>exact .cons h ih
inductive MR (F:Fs) (B:Bl):FrameMode->FrameMode->Prop
 | run:MR F B .run .run
 | returning:MR F B .returning .returning
 | panicking {l l':List PanicEntry}:PR F B l l'->MR F B (.panicking l) (.panicking l')
theorem MR.mono{B H:Bl}(e:Ext B H){m I:FrameMode}(h:MR F B m I):MR F H m I:=by
 cases h with
 | run=>exact .run
 | returning=>exact .returning
 | panicking h=>exact .panicking (h.mono e)
inductive RR (B:Bl):Option Nat->Option Nat->Prop
 | none:RR B none none
 | some {l l':Nat}:B l l'->RR B (some l) (some l')
theorem RR.mono{B H:Bl}(e:Ext B H){x y:Option Nat}(h:RR B x y):RR H x y:=by
 cases h with
 | none=>exact .none
 | some h=>exact .some (e _ _ h)
structure FR(F:Fs)(P:Program)(k:Ok)(B:Bl)(s:Bool)(f f':Frame):Prop where
 fn:f.fn=f'.fn
 kd:f.kind = .normal
 kd':f'.kind = .normal
 tmps:aX F B f.tmps f'.tmps
 todo:TR P k B s f.todo f'.todo
 defers:oZ B f.defers f'.defers
 mode:MR F B f.mode f'.mode
 round:RR B f.roundOf f'.roundOf
 ok:F.fk f.fn
theorem FR.mono{s:Bool}{B H:Bl}(e:Ext B H){f f':Frame}(h:FR F P k B s f f'):FR F P k H s f f' where
 fn:=h.fn
 kd:=h.kd
 kd':=h.kd'
 tmps:=h.tmps.mono e
 todo:=h.todo.mono e
 defers:=h.defers.mono e
 mode:=h.mode.mono e
 round:=h.round.mono e
 ok:=h.ok
inductive jP (F:Fs) (P:Program) (k:Ok) (B:Bl):List Frame->List Frame->Prop
 | bot {f f':Frame}:FR F P k B true f f'->f.roundOf=none->jP F P k B [f] [f']
 | cons {f f':Frame} {l l':List Frame}:FR F P k B false f f'->jP F P k B l l'->jP F P k B (f::l) (f'::l')
theorem jP.mono{B H:Bl}(e:Ext B H){l l':List Frame}(h:jP F P k B l l'):jP F P k H l l':=by
 induction h with
 | bot h hr=>exact .bot (h.mono e) hr
 | cons h _ ih=>exact .cons (h.mono e) ih
theorem jP.ne{l l':List Frame}(h:jP F P k B l l'):l.isEmpty=false:=by cases h<;>rfl
theorem jP.top{f f':Frame}{l l':List Frame}(h:jP F P k B (f::l) (f'::l')):FR F P k B l.isEmpty f f':=by
 cases h with
 | bot h _=>exact h
 | cons h ht=>rw[ht.ne];exact h
theorem jP.low{f f':Frame}{l l':List Frame}(h:jP F P k B (f::l) (f'::l'))(hl:l.isEmpty=true):f.roundOf=none:=by
 cases h with
 | bot _ h=>exact h
 | cons h ht=>rw[ht.ne] at hl;cases hl
theorem jP.turn{H:Bl}(e:Ext B H){f f' g g':Frame}{l l':List Frame}(h:jP F P k B (f::l) (f'::l'))(I:FR F P k H l.isEmpty g g')(hr:g.roundOf=f.roundOf):jP F P k H (g::l) (g'::l'):=by
 cases h with
 | bot h h0=>exact .bot I (hr.trans h0)
 | cons h ht=>rw[ht.ne] at I;exact .cons I (ht.mono e)
theorem jP.push{H:Bl}(e:Ext B H){f f' g g':Frame}{l l':List Frame}(h:jP F P k B (f::l) (f'::l'))(I:FR F P k H false g g'):jP F P k H (g::f::l) (g'::f'::l'):=.cons I (h.mono e)
theorem yZ{s:Bool}{f f':Frame}(h:FR F P k B s f f'){v v':Value}(hv:VR F B v v'):FR F P k B s (f.finish v) (f'.finish v')/\(f.finish v).roundOf=f.roundOf:=by
 obtain⟨fn,tmps,todo,Z,mode,kind,ro⟩:=f;obtain⟨fn',aen,todo',U,aeo,kind',ro'⟩:=f';obtain⟨h1,h2,h3,e,h5,H,I,J,M⟩:=h;dsimp only at h1 h2 h3 e h5 H I J M;subst h1 h2 h3;cases h5 with
 | nil=>exact⟨⟨rfl,rfl,rfl,e,.nil,H,I,J,M⟩,rfl⟩
 | stop hs hr hk=>
  have hk':=hk;obtain⟨c,K,hk⟩:=hk;simp only[Frame.finish,hk];exact⟨⟨rfl,rfl,rfl,e,by rw[<-hk];exact .stop hs hr hk',H,I,J,M⟩,trivial⟩
 | cons hi hl=>
  cases hi with
  | @inRegion ops l ho=>
   cases l with
   | nil=>exact⟨⟨rfl,rfl,rfl,e,.cons (.inRegion [] ho) hl,H,I,J,M⟩,rfl⟩
   | cons i rest=>
    refine⟨⟨rfl,rfl,rfl,?_,.cons (.inRegion rest ho) hl,H,I,J,M⟩,rfl⟩;simp only[Frame.finish];cases (ops[i]?).bind (·.dst) with
    | none=>exact e
    | some d=>exact e.set _ hv
  | inRangeFunc hb=>exact⟨⟨rfl,rfl,rfl,e,.cons (.endRangeFunc hb) hl,H,I,J,M⟩,rfl⟩
  | beginRound=>exact⟨⟨rfl,rfl,rfl,e,hl,H,I,J,M⟩,rfl⟩
  | code hc=>exact⟨⟨rfl,rfl,rfl,e,.cons (.code hc) hl,H,I,J,M⟩,rfl⟩
  | inBlock id=>exact⟨⟨rfl,rfl,rfl,e,.cons (.inBlock id) hl,H,I,J,M⟩,rfl⟩
  | inLoop hc=>exact⟨⟨rfl,rfl,rfl,e,.cons (.inLoop hc) hl,H,I,J,M⟩,rfl⟩
  | inScope hc=>exact⟨⟨rfl,rfl,rfl,e,.cons (.inScope hc) hl,H,I,J,M⟩,rfl⟩
  | endRangeFunc hb=>exact⟨⟨rfl,rfl,rfl,e,.cons (.endRangeFunc hb) hl,H,I,J,M⟩,rfl⟩
theorem y7{s:Bool}{f f':Frame}(h:FR F P k B s f f'){l l':List PanicEntry}(hl:PR F B l l'):FR F P k B s (f.raise l) (f'.raise l')/\(f.raise l).roundOf=f.roundOf:=by
 obtain⟨fn,tmps,todo,H,mode,kind,ro⟩:=f;obtain⟨fn',aen,todo',e,aeo,kind',ro'⟩:=f';obtain⟨h1,h2,h3,I,J,M,h7,U,Z⟩:=h;dsimp only at h1 h2 h3 I J M h7 U Z;subst h1 h2 h3;cases h7 with
 | run=>exact⟨⟨rfl,rfl,rfl,I,J,M,.panicking hl,U,Z⟩,rfl⟩
 | returning=>exact⟨⟨rfl,rfl,rfl,I,J,M,.panicking hl,U,Z⟩,rfl⟩
 | panicking h=>exact⟨⟨rfl,rfl,rfl,I,J,M,.panicking (hl.append h),U,Z⟩,rfl⟩
theorem aep(H:∀g,k.gl g=true->B g g)(hk:∀f,k.fn f=true->F.fn f\/F.ex f){s:Bool}{f f':Frame}(h:FR F P k B s f f'):Lj F k B f.eval f'.eval:=by
 intro x e;cases x with
 | tmp t=>exact h.tmps.getD t nP
 | const v=>exact Jd e
 | global g=>exact .ptr ⟨H g e,rfl,rfl,λ_=>rfl⟩
 | func g=>exact .func (hk g e) rfl rfl (λi h=>absurd h (Nat.not_lt_zero _)) (λi h=>absurd h (Nat.not_lt_zero _))
end Px
namespace Px
open Go
structure Setup(F:Fs)(P:Program)(k:Ok):Prop where
 bodies:∀f,F.fn f->∃fn c,P.funcs[f]? = some fn/\(fn.name == "runtime.NumGoroutine")=false/\fn.body=some c/\dR P k c=true
 fns:∀f,k.fn f=true->F.fn f\/F.ex f
 ext:Dl F P
 mt:Ik F P k.mt
 cm:k.cm=true->F.cm=true
 G:F.G=P.globals.size
 bt:P.info? F.bt=none
 recs:∀f,F.fr f->∃fn,P.funcs[f]? = some fn
theorem Setup.Wt{F:Fs}{P:Program}{k:Ok}(h:Setup F P k){f:Nat}(e:F.fk f):∃fn,P.funcs[f]? = some fn:=e.elim (λe=>let ⟨fn,_,h1,_⟩:=h.bodies f e;⟨fn,h1⟩) (h.recs f)
theorem Setup.bd{F:Fs}{P:Program}{k:Ok}(h:Setup F P k):Bodies F P:=λf J=>by
 obtain⟨fn,c,e,H,I,_⟩:=h.bodies f J;exact⟨fn,e,H,by simp[I]⟩
variable {F:Fs} {P:Program} {k:Ok} {base:Nat} {B:Bl}
def QI(F:Fs)(P:Program)(k:Ok)(base:Nat)(wL:World)(T:Nat->Question->Nat)(tail:List Frame)(s:GStep):Prop:=
 (∃o w,s.bare = .ended o w)\/∃B' nS kJ ql lM hL' hC' d',s.bare = .go (Conc.G nS (kJ++tail)) (at_ wL hL' T d')/\jP F P k B' (nS::kJ) (ql::lM)/\HR F (KK P k) base B' hL' hC'/\∃c,nS.mode = .panicking c
def zP(F:Fs)(P:Program)(k:Ok)(base:Nat)(B:Bl)(cs0:List Frame)(sQ:GStep)(oI:List Frame->World->GStep)(wL:World)(hL:Array Obj)(wC:World):Prop:=
 ∃n,(∃nS kJ ql lM B' hL' hC' es,sQ = .go (Conc.G ql (lM++cs0)) (at_ wC hC' wC.tape (wC.drawn+n)) es/\jP F P k B' (nS::kJ) (ql::lM)/\Ext B B'/\HR F (KK P k) base B' hL' hC' /\
   Fr base B B' wC.heap hC'/\jm base B' es/\∀tail T d,Ag T d wC.tape wC.drawn n->(oI tail (at_ wL hL T d)).bare = .go (Conc.G nS (kJ++tail)) (at_ wL hL' T (d+n))) \/
  ∀tail T d,Ag T d wC.tape wC.drawn n->QI F P k base wL T tail (oI tail (at_ wL hL T d))
def F8(F:Fs)(P:Program)(k:Ok)(base:Nat)(B:Bl)(main:Bool)(fL:Frame)(eG:List Frame)(fC:Frame)(iF cs0:List Frame)(wL:World)(hL:Array Obj)(wC:World):Prop:=
 zP F P k base B cs0 (stepG P main (Conc.G fC (iF++cs0)) wC) (λtail w=>stepG P true (Conc.G fL (eG++tail)) w) wL hL wC
theorem Wu{P:Program}{fn:FuncId}{es:Array Event}{e:Event}(h:e∈seen P fn es):e∈es:=by
 unfold seen at h;have H:∀(l:List Event) (q:Bool) (acc:Array Event),e∈(l.foldl (init:=(q,acc)) λ(q,kept) e=>
   match e.loc with
   | .mark (.extern f)=>((P.funcs[f]?).any (·.norace),kept)
   | _=>(q,if q && !e.sync then kept else kept.push e)).2->e∈acc\/e∈l:=by
  intro l;induction l with
  | nil=>intro q acc h;exact .inl h
  | cons x l ih=>
   intro q acc h;simp only[foldl_cons] at h;split at h
   ·rcases ih _ _ h with h|h
    ·exact .inl h
    ·exact .inr (by simp[h])
   ·rcases ih _ _ h with h|h
    ·split at h
     ·exact .inl h
     ·simp only[Array.mem_push] at h;rcases h with h|h
      ·exact .inl h
      ·exact .inr (by simp[h])
    ·exact .inr (by simp[h])
 dsimp only at h;rw[<-Array.foldl_toList] at h;rcases H _ _ _ h with h|h
 ·simp at h
 ·exact Array.mem_toList_iff.1 h
theorem jm.seen{es:Array Event}{fn:FuncId}(h:jm base B es):jm base B (seen P fn es):=λe he=>h e (Wu he)
theorem Jl{m:Bool}{f:Frame}{cs:List Frame}{w:World}(h:f.mode = .run):stepG P m (Conc.G f cs) w=stepG.exec P m true f cs none w:=by
 simp[stepG,Conc.G,h]
theorem ko{A:Type}(s:Sem A)(w:World):(s.runT P w #[]).1=s.run P w:=Sem.runT_fst ..
theorem Wv{es e:Array Event}{g:Goroutine}{w:World}:GStep.after es (.go g w e) = .go g w (es++e):=rfl
theorem bare_after{es:Array Event}{s:GStep}:(GStep.after es s).bare=s.bare:=by cases s<;>rfl
theorem jm.append{es H:Array Event}(h:jm base B es)(h':jm base B H):jm base B (es++H):=λe he=>by
 rcases Array.mem_append.1 he with I|I
 ·exact h e I
 ·exact h' e I
theorem jm.mono{H:Bl}(e:Ext B H){es:Array Event}(h:jm base B es):jm base H es:=λx I=>(h x I).mono e
theorem Ag.head{T e:Nat->Question->Nat}{d H n m:Nat}(h:Ag T d e H (n+m)):Ag T d e H n:=λi I=>h i bB
theorem Ag.tail{T H:Nat->Question->Nat}{d e n m:Nat}(h:Ag T d H e (n+m)):Ag T (d+n) H (e+n) m:=λi I=>by
 have:=h (n+i) bB;rw[show d+n+i=d+(n+i) by omega,show e+n+i=e+(n+i) by omega];exact this
theorem vw{A A':Type}{Q:Bl->A->A'->Prop}{s:Sem A}{s':Sem A'}(hs:SR F (KK P k) P Q B s s'){cs0:List Frame}{wL wC:World}{hL:Array Obj}(H:HR F (KK P k) base B hL wC.heap)
  (Yl:Except Value A'->World->GStep) (Ym:List Frame->Except Value A->World->GStep) (fn:FuncId) {sQ:GStep} {oI:List Frame->World->GStep}
  (ok:∀I x y M J n,Ext B I->XR F Q I x y->HR F (KK P k) base I M J->zP F P k base I cs0 (Yl y (at_ wC J wC.tape (wC.drawn+n))) (λtail w=>Ym tail x w) wL M (at_ wC J wC.tape (wC.drawn+n)))
  (eC:∀y w es,(∃I x,XR F Q I x y)->s'.runT P wC #[]=(res y w,es)->sQ=GStep.after (seen P fn es) (Yl y w))
  (eL:∀tail x w w',(∃I y,XR F Q I x y)->s.run P w=res x w'->(oI tail w).bare=(Ym tail x w').bare)
  (bad:∀tail h w w' T,Gone F (KK P k) base wL T B h w'->s.run P w = .halt h w'->QI F P k base wL T tail (oI tail w)):zP F P k base B cs0 sQ oI wL hL wC:=by
 obtain⟨n,hr|hr⟩:=hs.run wL hL wC #[] H
 ·obtain⟨x,y,I,M,J,es',e1,Z,e3,e4,e5,e6,e7⟩:=hr;obtain⟨m,h2|h2⟩:=ok I x y M J n e3 Z e4
  ·obtain⟨nS,kJ,ql,lM,B2,υ,hC2,es2,g1,g2,g3,g4,g5,g6,g7⟩:=h2;refine⟨n+m,.inl ⟨nS,kJ,ql,lM,B2,υ,hC2,seen P fn es'++es2,?_,g2,e3.trans g3,g4,e5.trans g5,(e6.seen.mono g3).append g6,λtail T d U=>?_⟩⟩
   ·rw[Array.empty_append] at e1;rw[eC y _ _ ⟨I,x,Z⟩ e1,g1,Wv];simp only[at_,Nat.add_assoc]
   ·rw[eL tail x _ _ ⟨I,y,Z⟩ (e7 T d U.head),g7 tail T (d+n) U.tail,Nat.add_assoc]
  ·refine⟨n+m,.inr λtail T d U=>?_⟩;have g:=h2 tail T (d+n) U.tail;unfold QI at g ⊢;rw[eL tail x _ _ ⟨I,y,Z⟩ (e7 T d U.head)];exact g
 ·refine⟨n,.inr λtail T d U=>?_⟩;obtain⟨h,w,hb,e⟩:=hr T d U;exact bad tail h _ w T hb e
theorem qL(f:Frame)(l:List PanicEntry):∃c,(f.raise l).mode = .panicking c:=by
 unfold Frame.raise;split<;>exact⟨_,rfl⟩
theorem iX{B:Bl}{cs0:List Frame}{wL wC:World}{hL:Array Obj}(H:HR F (KK P k) base B hL wC.heap){J I:Frame}{e M:List Frame}(hS:jP F P k B (J::e) (I::M)){Z:GStep}{U:List Frame->World->GStep}
  (eC:Z = .go (Conc.G I (M++cs0)) wC) (eL:∀tail w,(U tail w).bare = .go (Conc.G J (e++tail)) w):zP F P k base B cs0 Z U wL hL wC:=
 ⟨0,.inl ⟨J,e,I,M,B,hL,wC.heap,#[],eC,hS,Ext.refl _,H,Fr.refl _ _ _,jm.nil,λ_ _ _ _=>eL _ _⟩⟩
end Px
namespace Px
open Go
variable {F:Fs} {P:Program} {k:Ok} {base:Nat} {B:Bl}
def Kv(P:Program)(fr:Frame)(cs:List Frame):Except Value Next->World->GStep
 | .ok (.value v),w=>.go (Conc.G (fr.finish v) cs) w
 | .ok .skip,w=>.go (Conc.G (fr.finish undef) cs) w
 | .ok (.enter f args),w=>.go (Conc.G (Frame.enter P f args .normal) (fr::cs)) w
 | .ok (.round l f tmps a b),w=>.go (Conc.G (Frame.round l f tmps a b .normal) (fr::cs)) w
 | .error v,w=>.go (Conc.G (fr.raise [{ v,recovered:=false }]) cs) w
 | _,w=>.ended (.stuck "" "") w
def Lp(l:List Item):Prop:=l = []\/∃i t,l=i::t/\∀d b r s,i ≠ .call d b r s
theorem abo{s:Bool}{l l':List Item}(h:TR P k B s l l'):Lp l/\Lp l':=by
 cases h with
 | nil=>exact⟨.inl rfl,.inl rfl⟩
 | stop _ _ hk=>obtain⟨c,K,hk⟩:=hk;exact⟨.inr ⟨_,_,rfl,λ_ _ _ _ h=>by cases h⟩,.inr ⟨_,_,hk,λ_ _ _ _ h=>by cases h⟩⟩
 | cons hi _=>cases hi<;>exact⟨.inr ⟨_,_,rfl,λ_ _ _ _ h=>by cases h⟩,.inr ⟨_,_,rfl,λ_ _ _ _ h=>by cases h⟩⟩
theorem TL{e:Frame}{cs:List Frame}{s:Sem Next}{w w':World}{y:Except Value Next}{es:Array Event}(hk:e.kind = .normal)(hc:Lp e.todo)
  (M:(∃v,y = .ok (.value v))\/y = .ok .skip\/(∃f H,y = .ok (.enter f H))\/(∃l f H c d,y = .ok (.round l f H c d))\/∃v,y = .error v) (h:s.runT P w #[]=(res y w',es)) :
  stepG.apply P true e cs none s w=GStep.after (seen P e.fn es) (Kv P e cs y w'):=by
 have I:(e.kind==CallKind.early)=false:=by rw[hk];rfl
 rcases M with⟨v,rfl⟩|rfl|⟨f,H,rfl⟩|⟨l,f,H,c,d,rfl⟩|⟨v,rfl⟩<;>simp only[stepG.apply,if_true,h,res,I,Bool.false_eq_true,if_false,Kv,Conc.G];all_goals
  rcases hc with hc|⟨i,t,hc,J⟩
  ·simp only[hc]
  ·cases i<;>simp only[hc]<;>exact absurd rfl (J _ _ _ _)
theorem OW{K:Cs}{x y:Except Value Next}(h:XR F (NR F K) B x y):
  ((∃v,x = .ok (.value v))\/x = .ok .skip\/(∃f e,x = .ok (.enter f e))\/(∃l f e c d,x = .ok (.round l f e c d))\/∃v,x = .error v) /\
  ((∃v,y = .ok (.value v))\/y = .ok .skip\/(∃f e,y = .ok (.enter f e))\/(∃l f e c d,y = .ok (.round l f e c d))\/∃v,y = .error v):=by
 cases x with
 | error v=>cases y with
  | error v'=>exact⟨.inr (.inr (.inr (.inr ⟨v,rfl⟩))),.inr (.inr (.inr (.inr ⟨v',rfl⟩)))⟩
  | ok b=>exact h.elim
 | ok a=>cases y with
  | error v'=>exact h.elim
  | ok b=>
   cases (show NR F K B a b from h) with
   | value h=>exact⟨.inl ⟨_,rfl⟩,.inl ⟨_,rfl⟩⟩
   | skip=>exact⟨.inr (.inl rfl),.inr (.inl rfl)⟩
   | enter h h'=>exact⟨.inr (.inr (.inl ⟨_,_,rfl⟩)),.inr (.inr (.inl ⟨_,_,rfl⟩))⟩
   | round h h' a b c=>exact⟨.inr (.inr (.inr (.inl ⟨_,_,_,_,_,rfl⟩))),.inr (.inr (.inr (.inl ⟨_,_,_,_,_,rfl⟩)))⟩
theorem F9{s:Sem Next}{w w':World}{h:Halt}(e:s.run P w = .halt h w'):∃es,s.runT P w #[]=(.halt h w',es):=by
 have H:(s.runT P w #[]).1 = .halt h w':=by rw[ko,e]
 generalize hr:s.runT P w #[]=r at H;obtain⟨I,es⟩:=r;dsimp only at H;subst H;exact⟨es,rfl⟩
theorem TM{H:Frame}{cs:List Frame}{s:Sem Next}{w w':World}{h:Halt}(J:Bad h)(e:s.run P w = .halt h w'):∃o I,(stepG.apply P true H cs none s w).bare = .ended o I:=by
 obtain⟨es,hr⟩:=F9 e;cases h with
 | stuck s=>exact⟨.stuck s (H.pos P),w',by simp only[stepG.apply,if_true,hr];exact bare_after⟩
 | unsupported u=>cases u<;>first|exact J.elim|exact⟨.unsupported _ (H.pos P),w',by simp only[stepG.apply,if_true,hr];exact bare_after⟩
 | _=>exact J.elim
theorem Lr{s:Bool}(S:Setup F P k){f:Nat}(H:F.fn f){I J:Array Value}(h:aX F B I J):FR F P k B s (Frame.enter P f I .normal) (Frame.enter P f J .normal):=by
 obtain⟨fn,c,e,Z,M,U⟩:=S.bodies f H;refine⟨rfl,rfl,rfl,?_,?_,.nil,.run,.none,.inl H⟩
 ·simp only[Frame.enter,e,Option.map_some,Option.getD_some];rw[h.1];exact h.append (.replicate _ nP)
 ·simp only[Frame.enter,e,Option.bind_some,M,Option.getD_some];exact .cons (.code U) .nil
theorem Ls(S:Setup F P k){fL fC:Frame}{Z iF cs0:List Frame}(hS:jP F P k B (fL::Z) (fC::iF)){s s':Sem Next}(hs:SR F (KK P k) P (NR F (KK P k)) B s s'){wL wC:World}{hL:Array Obj}(H:HR F (KK P k) base B hL wC.heap):
  zP F P k base B cs0 (stepG.apply P true fC (iF++cs0) none s' wC) (λtail w=>stepG.apply P true fL (Z++tail) none s w) wL hL wC:=by
 have M:=hS.top;have hn:=abo M.todo;refine vw hs H (Kv P fC (iF++cs0)) (λtail=>Kv P fL (Z++tail)) fC.fn ?_ ?_ ?_ ?_
 ·intro U x y hL' hC' n e I J;cases x with
  | error v=>cases y with
   | ok b=>exact I.elim
   | error v'=>
    have hr:=y7 (l:=[{ v,recovered:=false }]) (l':=[{ v:=v',recovered:=false }]) (M.mono e) (.cons (show VR F U v v' from I) .nil);exact iX J (hS.turn e hr.1 hr.2) rfl λ_ _=>rfl
  | ok a=>cases y with
   | error v'=>exact I.elim
   | ok b=>
    cases (show NR F (KK P k) U a b from I) with
    | value hv=>
     have hr:=yZ (M.mono e) hv;exact iX J (hS.turn e hr.1 hr.2) rfl λ_ _=>rfl
    | skip=>
     have hr:=yZ (M.mono e) nP;exact iX J (hS.turn e hr.1 hr.2) rfl λ_ _=>rfl
    | enter hf hv=>exact iX J (hS.push e (Lr S hf hv)) rfl λ_ _=>rfl
    | @round l l' f xs ys c d hl hv hc hd hf=>
     exact iX J (hS.push e (g:=Frame.round l f xs c d .normal) (g':=Frame.round l' f ys c d .normal) ⟨rfl,rfl,rfl,hv,.cons (.code hc) (.cons .beginRound (.cons (.code hd) .nil)),.nil,.run,.some hl,hf⟩) rfl λ_ _=>rfl
 ·intro y w es hy hr;obtain⟨U,x,I⟩:=hy;exact TL M.kd' hn.2 (OW I).2 hr
 ·intro tail x w w' I hr;obtain⟨U,y,I⟩:=I;have h1:(s.runT P w #[]).1=res x w':=by rw[ko,hr]
  have h2:s.runT P w #[]=(res x w',(s.runT P w #[]).2):=by rw[<-h1]
  rw[TL M.kd hn.1 (OW I).1 h2,bare_after]
 ·intro tail h w w' T hb hr;cases hb with
  | bad hb=>exact .inl (TM hb hr)
  | lost hv e J=>
   obtain⟨es,hr⟩:=F9 hr;have hq:=y7 (l:=[{ v:=_,recovered:=false }]) (l':=[{ v:=_,recovered:=false }]) (M.mono e) (.cons hv .nil);exact .inr ⟨_,_,Z,_,iF,_,_,_,by simp only[stepG.apply,if_true,hr];exact bare_after,hS.turn e hq.1 hq.2,J,qL _ _⟩
end Px
namespace Px
open Go
variable {F:Fs} {P:Program} {k:Ok} {base:Nat} {B:Bl}
theorem zQ{K:Cs}{l l':Nat}(h:B l l'):SR F K P (λB r r'=>OR F K B (.loop r) (.loop r')/\B l l') B (Instr.getLoop l) (Instr.getLoop l'):=by
 refine SR.bind (Q:=λB o I=>OR F K B o I/\B l l') (.getObj h λo I H=>.pure ⟨H,h⟩) λJ o I e H=>?_
 obtain⟨H,hl⟩:=H;cases H with
 | loop a b c d f g i j k l m n=>exact .pure ⟨.loop a b c d f g i j k l m n,hl⟩
 | _=>exact aF
theorem ET{K:Cs}{l l':Nat}{r r':Loop}(h:B l l')(hr:OR F K B (.loop r) (.loop r')):SR F K P (λ_ _ _=>True) B (setObj l (.loop r)) (setObj l' (.loop r')):=
 .setObj h hr (λ_ _ _ h=>by cases h) (.pure trivial)
theorem TN{K:Cs}{l l':Nat}(h:B l l')(j:Option Code)(H:∀c,j=some c->K c):SR F K P (VQ F) B (Instr.endRound l j) (Instr.endRound l' j):=by
 refine (zQ h).bind λI r r' e hr=>?_
 obtain⟨hr,hl⟩:=hr;refine SR.bind (Q:=λ_ _ _=>True) (ET hl ?_) λJ _ _ _ _=>.pure (.bool _)
 cases hr with
 | loop a b c d f g i j k l m n=>exact .loop rfl rfl c d f g i j k l H n
theorem Ww{K:Cs}{l l':Nat}(h:B l l'):SR F K P (λ_ a b=>a=b/\∀c,a=some c->K c) B (Instr.endLoop l) (Instr.endLoop l'):=by
 refine (zQ h).bind λJ r r' e hr=>?_
 obtain⟨hr,hl⟩:=hr;cases hr with
 | loop a b c d f g i j k l m n=>
  rw[<-a];have I:∀ {A A':Type} {Q:Bl->A->A'->Prop} {x:String},SR F K P Q J (runtimePanic (.error x):Sem A) (runtimePanic (.error x):Sem A'):=dV _ (.inr (.inl ⟨_,rfl⟩));by_cases H:(r.state == .busy)=true
  ·simp only[H,if_true];first|exact I|exact SR.bind (Q:=λ_ _ _=>False) I λ_ _ _ _ x=>x.elim
  ·simp only[H];exact SR.bind (Q:=λ_ _ _=>True) (ET (r:={ r with state:=.exhausted }) (r':={ r' with state:=.exhausted }) hl (.loop rfl b c d f g i j k l m n)) λM _ _ _ _=>.pure ⟨b,m⟩
theorem Og{K:Cs}{l l':Nat}(h:B l l'):SR F K P (λ_ _ _=>True) B (Instr.beginRound l) (Instr.beginRound l'):=by
 refine (zQ h).bind λH r r' e hr=>?_
 obtain⟨hr,hl⟩:=hr;cases hr with
 | loop a b c d f g i j k l m n=>
  refine SR.bind (Q:=λ_ _ _=>True) (ET (r:={ r with state:=.busy }) (r':={ r' with state:=.busy }) hl (.loop rfl b c d f g i j k l m n)) λI _ _ _ _=>?_
  rw[<-a];cases r.state with
  | ready=>exact .pure trivial
  | _=>exact dV _ (.inr (.inl ⟨_,rfl⟩))
theorem Kk{K:Cs}{l l':Nat}(h:B l l'):SR F K P (λB a b=>oZ B a b) B (Instr.takeDeferred l) (Instr.takeDeferred l'):=by
 refine SR.bind (Q:=λB o J=>OR F K B o J/\B l l') (.getObj h λo J H=>.pure ⟨H,h⟩) λM o J e H=>?_
 obtain⟨H,hl⟩:=H;cases H with
 | deferred I=>exact SR.bind (Q:=λB _ _=>oZ B _ _) (.setObj hl .taken (λ_ _ _ h=>by cases h) (.pure I)) λU _ _ _ I=>.pure I
 | _=>exact aF
theorem OX{K:Cs}{f:Nat}(Z:F.fk f){I e:Array Value}(h:aX F B I e)(H:Array Tmp){a b:Code}(J:K a)(M:K b){x y:Nat}(U:B x y):
  OR F K B (.loop { state:=.ready,pending:=none,fn:=f,tmps:=I,params:=H,assign:=a,body:=b,defers:=x }) (.loop { state:=.ready,pending:=none,fn:=f,tmps:=e,params:=H,assign:=a,body:=b,defers:=y }):=
 .loop rfl rfl rfl h rfl rfl rfl U J M (λ_ hc=>nomatch hc) Z
theorem QJ{K:Cs}{f:Nat}(hf:F.fk f){ts I:Array Value}(h:aX F B ts I)(J:Array Tmp){a b:Code}(ha:K a)(hb:K b){ro H:Option Nat}(hr:RR B ro H):
  SR F K P (λB x y=>B x.1 y.1/\oZ B x.2 y.2) B (Instr.enterLoop f ts J a b ro) (Instr.enterLoop f I J a b H):=by
 unfold Instr.enterLoop;cases hr with
 | some hl=>
  refine (zQ hl).bind λB1 r r' e hr=>?_
  obtain⟨hr,_⟩:=hr;cases hr with
  | loop _ _ _ _ _ _ _ j _ _ _ _=>
   refine SR.bind (Q:=λB x y=>B x.1 y.1/\oZ B x.2 y.2) (.pure ⟨j,.nil⟩) λB2 x y M Ϡ=>?_
   obtain⟨x1,x2⟩:=x;obtain⟨y1,y2⟩:=y;obtain⟨U,Z⟩:=Ϡ;refine SR.bind (Q:=λB r r'=>B r r'/\oZ B x2 y2) (.new (OX hf ((h.mono e).mono M) J ha hb U) λr r' B' e hr _=>.pure ⟨hr,Z.mono e⟩) λB3 r r' _ hr=>.pure hr
 | none=>
  refine SR.bind (Q:=λB r r'=>B r r') (.new (.deferred .nil) λr r' B' _ hr _=>.pure hr) λB1 r r' e hr=>?_
  refine SR.bind (Q:=λB x y=>B x.1 y.1/\oZ B x.2 y.2) (.pure ⟨hr,.cons (.mark hr) .nil⟩) λB2 x y M Ϡ=>?_
  obtain⟨x1,x2⟩:=x;obtain⟨y1,y2⟩:=y;obtain⟨U,Z⟩:=Ϡ;refine SR.bind (Q:=λB r r'=>B r r'/\oZ B x2 y2) (.new (OX hf ((h.mono e).mono M) J ha hb U) λr r' B' e hr _=>.pure ⟨hr,Z.mono e⟩) λB3 r r' _ hr=>.pure hr
theorem Wy{K:Cs}(fn:Func){Z ys:Array Value}(h:aX F B Z ys):SR F K P (VQ F) B (results fn Z) (results fn ys):=by
 refine (Yh (R:=VQ F) (λ_ _ _ _ e h=>h.mono e) fn.results λr _ B' e=>?_).bind λB1 U vs e M=>?_
 ·cases r with
  | tmp t=>exact .pure ((h.mono e).getD t nP)
  | cell a t=>exact (Il ((h.mono e).getD a nP)).bind λ_ _ _ _ ha=>rY t ha
 ·have J:aX F B1 U vs:=aX.ø M.1 M.2;by_cases I:U.size=1
  ·have H:vs.size=1:=J.1 ▸ I;rw[dif_pos I,dif_pos H];exact .pure (J.2 0 bB bB)
  ·have H:¬ vs.size=1:=J.1 ▸ I;rw[dif_neg I,dif_neg H];exact .pure J.tuple
theorem ZN{s:Bool}{id:Nat}{l l':List Item}(h:TR P k B s l l'):(exitTo id l=none/\(exitTo id l'=none\/s=true))\/∃m e,exitTo id l=some m/\exitTo id l'=some e/\TR P k B s m e:=by
 induction h with
 | nil=>exact .inl ⟨rfl,.inl rfl⟩
 | stop hs hr _=>obtain⟨w,rfl⟩:=hr;exact .inl ⟨rfl,.inr hs⟩
 | @cons i i' l l' hi hl ih=>
  cases hi with
  | inBlock id'=>
   simp only[exitTo];by_cases he:(id'==id)=true
   ·rw[if_pos he,if_pos he];exact .inr ⟨_,_,rfl,rfl,hl⟩
   ·rw[if_neg he,if_neg he];exact ih
  | _=>exact ih
end Px
namespace Px
open Go
variable {F:Fs} {P:Program} {k:Ok} {base:Nat} {B:Bl}
theorem abp{M J:Frame}{I Z cs0:List Frame}(hS:jP F P k B (M::I) (J::Z))(ϝ:I ≠ []){m:Bool}{wL wC:World}{hL:Array Obj}(H:HR F (KK P k) base B hL wC.heap){v v':Value}(U:VR F B v v'):
  zP F P k base B cs0 (doReturn P m J (Z++cs0) none v' wC) (λtail w=>doReturn P true M (I++tail) none v w) wL hL wC:=by
 cases hS with
 | bot=>exact absurd rfl ϝ
 | cons h ht=>
  have kd:=h.kd;have e:=h.kd';cases ht with
  | bot h2 h0=>
   have hr:=yZ h2 U;exact iX H (.bot hr.1 (hr.2.trans h0)) (by simp[doReturn,e,Conc.G]) λtail w=>by simp[doReturn,kd,GStep.bare,Conc.G]
  | cons h2 ht2=>
   have hr:=yZ h2 U;exact iX H (.cons hr.1 ht2) (by simp[doReturn,e,Conc.G]) λtail w=>by simp[doReturn,kd,GStep.bare,Conc.G]
theorem Lu{I J:Frame}{M Z cs0:List Frame}(hS:jP F P k B (I::M) (J::Z)){m:Bool}{wL wC:World}{hL:Array Obj}(H:HR F (KK P k) base B hL wC.heap){l l':Nat}(hl:I.roundOf=some l)(_:J.roundOf=some l')(hb:B l l')(j:Option Code)(hj:∀c,j=some c->KK P k c)
  {sQ:GStep} {oI:List Frame->World->GStep}
  (eC:sQ=(let (r,es):=(Instr.endRound l' j).runT P wC #[];GStep.after (seen P J.fn es) <| match r with
    | .ok v w=>doReturn P m J (Z++cs0) none v w
    | .halt _ w=>.ended (.stuck "range over a function: no such loop" (J.pos P)) w))
  (eL:∀tail w,oI tail w=(let (r,es):=(Instr.endRound l j).runT P w #[];GStep.after (seen P I.fn es) <| match r with
    | .ok v w=>doReturn P true I (M++tail) none v w
    | .halt _ w=>.ended (.stuck "range over a function: no such loop" (I.pos P)) w)):zP F P k base B cs0 sQ oI wL hL wC:=by
 have ϝ:M ≠ []:=by
  intro h;subst h;cases hS with
  | bot _ h0=>rw[h0] at hl;cases hl
  | cons _ ht=>cases ht
 have U:∀tail w,(oI tail w).bare=(match (Instr.endRound l j).run P w with
    | .ok v w=>doReturn P true I (M++tail) none v w
    | .halt _ w=>.ended (.stuck "range over a function: no such loop" (I.pos P)) w:GStep).bare:=by
  intro tail w;rw[eL];dsimp only
  rw[bare_after,ko]
 refine vw (TN hb j hj) H (λy w=>match y with | .ok v=>doReturn P m J (Z++cs0) none v w | .error _=>.ended (.stuck "range over a function: no such loop" (J.pos P)) w)
  (λtail x w=>match x with | .ok v=>doReturn P true I (M++tail) none v w | .error _=>.ended (.stuck "range over a function: no such loop" (I.pos P)) w) J.fn ?_ ?_ ?_ ?_
 ·intro B' x y hL' hC' n e hx H';cases x with
  | error v=>exact⟨0,.inr λ_ _ _ _=>.inl ⟨_,_,rfl⟩⟩
  | ok v=>cases y with
   | error v'=>exact hx.elim
   | ok v'=>exact abp (hS.mono e) ϝ H' hx
 ·intro y w es _ hr;rw[eC,hr];cases y<;>rfl
 ·intro tail x w w' _ hr;rw[U,hr];cases x<;>rfl
 ·intro tail h w w' T hb hr;exact .inl ⟨.stuck "range over a function: no such loop" (I.pos P),w',by rw[U,hr];rfl⟩
end Px
namespace Px
open Go
variable {F:Fs} {P:Program} {k:Ok} {base:Nat} {B:Bl}
theorem Lv{ops:Array Oper}{e H:Array Value}(h:aX F B e H):yielded ops e=yielded ops H:=by
 funext j;unfold yielded;cases (ops[j]?).bind (·.dst) with
 | none=>rfl
 | some d=>
  simp only[Option.bind_some];rcases h.get? d with⟨a,b⟩|⟨v,v',a,b,r⟩
  ·rw[a,b]
  ·rw[a,b];cases r with
   | junk hj=>cases v'<;>first|rfl|exact absurd rfl (hj.2.2.2.2.2.1 _)
   | _=>rfl
theorem Wz(S:Setup F P k)(hn:∀f,F.ex f->HN F P B){v H:Value}(h:VR F B v H){I J:Array Value}(e:aX F B I J):SR F (KK P k) P (NR F (KK P k)) B (do let d <-Deferred.ofValue v I;invoke d.target d.args) (do let d <-Deferred.ofValue H J;invoke d.target d.args):=by
 cases h with
 | func M h1 h2 h3 h4=>exact BK S.bd S.ext hn M ((aX.append ⟨h1,h3⟩ e).append ⟨h2,h4⟩)
 | yield hl=>
  refine TF hl ?_;simpa using e
 | nilFunc=>exact dV _ (.inr (.inr rfl))
 | qG=>exact OV S.bt
 | _=>exact .bad trivial
theorem aer(S:Setup F P k)(Ú:GB F P k B){fL fC:Frame}{eG iF cs0:List Frame}(hS:jP F P k B (fL::eG) (fC::iF))(hm:fL.mode = .run){m:Bool}{wL wC:World}{hL:Array Obj}(H:HR F (KK P k) base B hL wC.heap):
  F8 F P k base B m fL eG fC iF cs0 wL hL wC:=by
 have h:=hS.top;have hm':fC.mode = .run:=by
  have:=h.mode;rw[hm] at this;cases hc:fC.mode with
  | run=>rfl
  | _=>rw[hc] at this;cases this
 have ó:=aep Ú.gl S.fns h;unfold F8;simp only[Jl hm,Jl hm'];obtain⟨fn,ts,todo,ds,md,kd,ro⟩:=fL;obtain⟨fn',I,todo',M,md',kd',U⟩:=fC;obtain⟨h1,h2,h3,h4,h5,h6,h7,h8,h9⟩:=h;dsimp only at h1 h2 h3 h4 h5 h6 h7 h8 h9 hm hm';subst h1 h2 h3 hm hm';have tot:∀ {t t':List Item},TR P k B eG.isEmpty t t'->jP F P k B ({ fn:=fn,tmps:=ts,todo:=t,defers:=ds,mode:=.run,kind:=.normal,roundOf:=ro }::eG) ({ fn:=fn,tmps:=I,todo:=t',defers:=M,mode:=.run,kind:=.normal,roundOf:=U }::iF):=
  λZ=>hS.turn (Ext.refl _) ⟨rfl,rfl,rfl,h4,Z,h6,.run,h8,h9⟩ rfl
 have ret:jP F P k B ({ fn:=fn,tmps:=ts,todo:=todo,defers:=ds,mode:=.returning,kind:=.normal,roundOf:=ro }::eG) ({ fn:=fn,tmps:=I,todo:=todo',defers:=M,mode:=.returning,kind:=.normal,roundOf:=U }::iF):=
  hS.turn (Ext.refl _) ⟨rfl,rfl,rfl,h4,h5,h6,.returning,h8,h9⟩ rfl
 cases h5 with
 | nil=>
  cases h8 with
  | none=>exact iX H ret (by simp[stepG.exec,Conc.G]) λtail w=>by simp[stepG.exec,Conc.G,GStep.bare]
  | some J=>exact Lu hS H rfl rfl J none (λ_ h=>nomatch h) (by simp only[stepG.exec];rfl) λtail w=>by simp only[stepG.exec];rfl
 | stop _ hr _=>
  obtain⟨why,rfl⟩:=hr;exact⟨0,.inr λtail T d _=>.inl ⟨_,_,by simp only[stepG.exec];rfl⟩⟩
 | @cons i i' t t' hi Z=>
  cases hi with
  | @code c hc=>
   cases c with
   | skip=>exact iX H (tot Z) (by simp[stepG.exec,Conc.G]) λtail w=>by simp[stepG.exec,Conc.G,GStep.bare]
   | label l=>exact iX H (tot Z) (by simp[stepG.exec,Conc.G]) λtail w=>by simp[stepG.exec,Conc.G,GStep.bare]
   | ret=>
    cases h8 with
    | none=>exact iX H ret (by simp[stepG.exec,Conc.G]) λtail w=>by simp[stepG.exec,Conc.G,GStep.bare]
    | some J=>exact Lu hS H rfl rfl J (some .ret) (λ_ h=>by cases h;rfl) (by simp only[stepG.exec];rfl) λtail w=>by simp only[stepG.exec];rfl
   | seq a b=>
    simp only[KK,dR,Bool.and_eq_true] at hc;exact iX H (tot (.cons (.code hc.1) (.cons (.code hc.2) Z))) (by simp[stepG.exec,Conc.G]) λtail w=>by simp[stepG.exec,Conc.G,GStep.bare]
   | block id c=>exact iX H (tot (.cons (.code (c:=c) hc) (.cons (.inBlock id) Z))) (by simp[stepG.exec,Conc.G]) λtail w=>by simp[stepG.exec,Conc.G,GStep.bare]
   | loop c=>exact iX H (tot (.cons (.code (c:=c) hc) (.cons (.inLoop (c:=c) hc) Z))) (by simp[stepG.exec,Conc.G]) λtail w=>by simp[stepG.exec,Conc.G,GStep.bare]
   | scope c=>exact iX H (tot (.cons (.code (c:=c) hc) (.cons (.inScope (c:=c) hc) Z))) (by simp[stepG.exec,Conc.G]) λtail w=>by simp[stepG.exec,Conc.G,GStep.bare]
   | goto l=>simp[KK,dR] at hc
   | refuse w=>simp[KK,dR] at hc
   | cond c a b=>
    simp only[KK,dR,Bool.and_eq_true] at hc;have hv:=ó c hc.1.1;by_cases J:∃x,Frame.eval { fn:=fn,tmps:=ts,todo:=.code (.cond c a b)::t,defers:=ds,mode:=.run,kind:=.normal,roundOf:=ro } c = .bool x
    ·obtain⟨x,hx⟩:=J;rw[hx] at hv;have hx':Frame.eval { fn:=fn,tmps:=I,todo:=.code (.cond c a b)::t',defers:=M,mode:=.run,kind:=.normal,roundOf:=U } c = .bool x:=by
      generalize Frame.eval _ c=y at hv;cases hv;rfl
     refine iX H (tot (.cons (.code (c:=if x then a else b) ?_) Z)) (by simp only[stepG.exec,hx',Conc.G]) λtail w=>by simp only[stepG.exec,hx,Conc.G,GStep.bare]
     cases x
     ·exact hc.2
     ·exact hc.1.2
    ·refine⟨0,.inr λtail T d _=>?_⟩;simp only[stepG.exec];generalize hy:Frame.eval _ c=y at J;cases y<;>first|exact absurd ⟨_,rfl⟩ J|exact .inl ⟨_,_,rfl⟩
   | exit id=>
    rcases ZN (id:=id) Z with⟨e1,e2⟩|⟨u,u',e1,e2,hu⟩
    ·cases h8 with
     | none=>exact⟨0,.inr λtail T d _=>.inl ⟨.stuck "exit, goto: no such block or label" _,_,by simp only[stepG.exec,e1,Option.elim_none];rfl⟩⟩
     | some J=>
      have e2:=e2.resolve_right λh=>by have:=hS.low h;cases this
      exact Lu hS H rfl rfl J (some (.exit id)) (λ_ h=>by cases h;rfl) (by simp only[stepG.exec,e2,Option.elim_none];rfl) λtail w=>by simp only[stepG.exec,e1,Option.elim_none];rfl
    ·exact iX H (tot hu) (by simp[stepG.exec,Conc.G,e2]) λtail w=>by simp[stepG.exec,Conc.G,GStep.bare,e1]
   | region id ops draw=>
    cases draw with
    | false=>exact iX H (tot (.cons (.inRegion (ops:=ops) (List.range ops.size) hc) Z)) (by simp[stepG.exec,Conc.G]) λtail w=>by simp[stepG.exec,Conc.G,GStep.bare]
    | true=>
     refine⟨1,.inl ⟨_,eG,_,iF,B,hL,wC.heap,#[],?_,tot (.cons (.inRegion (ops:=ops) (Region.schedule (P.follows .mixedOrders) ops (wC.tape wC.drawn (.order fn id))) hc) Z),Ext.refl _,H,Fr.refl _ _ _,jm.nil,λtail T d hT=>?_⟩⟩
     ·simp[stepG.exec,Conc.G,choose,Sem.run,Question.forced,Question.cut,at_]
     ·have İ:T d=wC.tape wC.drawn:=hT 0 bB;simp[stepG.exec,Conc.G,choose,Sem.run,Question.forced,Question.cut,at_,GStep.bare,İ]
   | rangeFunc f ps a b=>
    simp only[KK,dR,Bool.and_eq_true] at hc;obtain⟨⟨hf,ha⟩,J⟩:=hc;refine vw (QJ (K:=KK P k) h9 h4 ps ha J h8) H (λy w=>match y with
      | .ok (l,mark)=>stepG.apply P true { fn:=fn,tmps:=I,todo:=.inRangeFunc l::t',defers:=mark++M,mode:=.run,kind:=.normal,roundOf:=U } (iF++cs0) none
        (do let d <-Deferred.ofValue (Frame.eval { fn:=fn,tmps:=I,todo:=.inRangeFunc l::t',defers:=mark++M,mode:=.run,kind:=.normal,roundOf:=U } f) #[.func (.yield l) #[] #[]];invoke d.target d.args) w
      | .error _=>.ended (.stuck "range over a function: no such loop" (Frame.pos P { fn:=fn,tmps:=I,todo:=.code (.rangeFunc f ps a b)::t',defers:=M,mode:=.run,kind:=.normal,roundOf:=U })) w)
     (λtail x w=>match x with
      | .ok (l,mark)=>stepG.apply P true { fn:=fn,tmps:=ts,todo:=.inRangeFunc l::t,defers:=mark++ds,mode:=.run,kind:=.normal,roundOf:=ro } (eG++tail) none
        (do let d <-Deferred.ofValue (Frame.eval { fn:=fn,tmps:=ts,todo:=.inRangeFunc l::t,defers:=mark++ds,mode:=.run,kind:=.normal,roundOf:=ro } f) #[.func (.yield l) #[] #[]];invoke d.target d.args) w
      | .error _=>.ended (.stuck "range over a function: no such loop" (Frame.pos P { fn:=fn,tmps:=ts,todo:=.code (.rangeFunc f ps a b)::t,defers:=ds,mode:=.run,kind:=.normal,roundOf:=ro })) w) fn ?_ ?_ ?_ ?_
    ·intro B' x y hL' hC' n e hx H';cases x with
     | error v=>exact⟨0,.inr λ_ _ _ _=>.inl ⟨_,_,rfl⟩⟩
     | ok x=>cases y with
      | error v'=>exact hx.elim
      | ok y=>
       obtain⟨l,mk⟩:=x;obtain⟨l',mk'⟩:=y;obtain⟨hl,Ŏ⟩:=(show B' l l'/\oZ B' mk mk' from hx);have ĥ:FR F P k B' eG.isEmpty { fn:=fn,tmps:=ts,todo:=.inRangeFunc l::t,defers:=mk++ds,mode:=.run,kind:=.normal,roundOf:=ro } { fn:=fn,tmps:=I,todo:=.inRangeFunc l'::t',defers:=mk'++M,mode:=.run,kind:=.normal,roundOf:=U }:=
        ⟨rfl,rfl,rfl,h4.mono e,.cons (.inRangeFunc hl) (Z.mono e),Ŏ.append (h6.mono e),.run,h8.mono e,h9⟩
       exact Ls S (hS.turn e ĥ rfl) (Wz S (λf hf=>(Ú.ex f hf).mono e) ((ó f hf).mono e) (.one (.yield hl))) H'
    ·intro y w es _ hr;simp only[stepG.exec,hr];cases y<;>simp only[res,resolve,map_toArray,map_cons,map_nil,Frame.eval]
    ·intro tail x w w' _ hr;have h1:((Instr.enterLoop fn ts ps a b ro).runT P w #[]).1=res x w':=by rw[ko,hr]
     generalize hg:(Instr.enterLoop fn ts ps a b ro).runT P w #[]=g at h1;obtain⟨g1,g2⟩:=g;dsimp only at h1;subst h1;simp only[stepG.exec,hg,bare_after];cases x<;>simp only[res,resolve,map_toArray,map_cons,map_nil,Frame.eval]
    ·intro tail h w w' T J hr;have h1:((Instr.enterLoop fn ts ps a b ro).runT P w #[]).1 = .halt h w':=by rw[ko,hr]
     generalize hg:(Instr.enterLoop fn ts ps a b ro).runT P w #[]=g at h1;obtain⟨g1,g2⟩:=g;dsimp only at h1;subst h1;exact .inl ⟨.stuck "range over a function: no such loop" _,w',by simp only[stepG.exec,hg,bare_after];rfl⟩
  | inBlock id=>exact iX H (tot Z) (by simp[stepG.exec,Conc.G]) λtail w=>by simp[stepG.exec,Conc.G,GStep.bare]
  | inScope hc=>exact iX H (tot Z) (by simp[stepG.exec,Conc.G]) λtail w=>by simp[stepG.exec,Conc.G,GStep.bare]
  | inLoop hc=>exact iX H (tot (.cons (.code hc) (.cons (.inLoop hc) Z))) (by simp[stepG.exec,Conc.G]) λtail w=>by simp[stepG.exec,Conc.G,GStep.bare]
  | inRangeFunc J=>exact⟨0,.inr λtail T d _=>.inl ⟨_,_,by simp only[stepG.exec];rfl⟩⟩
  | beginRound=>
   refine Ls S hS (OM ?_) H;cases h8 with
   | none=>exact aF
   | some J=>exact Og J
  | @endRangeFunc l l' J=>
   refine vw (Ww (K:=KK P k) J) H (λy w=>match y with
     | .ok j=>.go (Conc.G { fn:=fn,tmps:=I,todo:=(j.map Item.code).toList++t',defers:=M,mode:=.run,kind:=.normal,roundOf:=U } (iF++cs0)) w
     | .error v=>.go (Conc.G (Frame.raise { fn:=fn,tmps:=I,todo:=.endRangeFunc l'::t',defers:=M,mode:=.run,kind:=.normal,roundOf:=U } [{ v,recovered:=false }]) (iF++cs0)) w)
    (λtail x w=>match x with
     | .ok j=>.go (Conc.G { fn:=fn,tmps:=ts,todo:=(j.map Item.code).toList++t,defers:=ds,mode:=.run,kind:=.normal,roundOf:=ro } (eG++tail)) w
     | .error v=>.go (Conc.G (Frame.raise { fn:=fn,tmps:=ts,todo:=.endRangeFunc l::t,defers:=ds,mode:=.run,kind:=.normal,roundOf:=ro } [{ v,recovered:=false }]) (eG++tail)) w) fn ?_ ?_ ?_ ?_
   ·intro B' x y hL' hC' n e hx H';cases x with
    | error v=>cases y with
     | ok y=>exact hx.elim
     | error v'=>
      have hr:=y7 (l:=[{ v,recovered:=false }]) (l':=[{ v:=v',recovered:=false }]) (hS.top.mono e) (.cons (show VR F B' v v' from hx) .nil);exact iX H' (hS.turn e hr.1 hr.2) rfl λ_ _=>rfl
    | ok x=>cases y with
     | error v'=>exact hx.elim
     | ok y=>
      obtain⟨rfl,hj⟩:=(show x=y/\∀c,x=some c->KK P k c from hx);cases x with
      | none=>exact iX H' ((tot Z).mono e) rfl λ_ _=>rfl
      | some c=>exact iX H' (hS.turn e (g:={ fn:=fn,tmps:=ts,todo:=.code c::t,defers:=ds,mode:=.run,kind:=.normal,roundOf:=ro }) (g':={ fn:=fn,tmps:=I,todo:=.code c::t',defers:=M,mode:=.run,kind:=.normal,roundOf:=U }) ⟨rfl,rfl,rfl,h4.mono e,.cons (.code (hj c rfl)) (Z.mono e),h6.mono e,.run,h8.mono e,h9⟩ rfl) rfl λ_ _=>rfl
   ·intro y w es _ hr;simp only[stepG.exec,hr];cases y<;>rfl
   ·intro tail x w w' _ hr;have h1:((Instr.endLoop l).runT P w #[]).1=res x w':=by rw[ko,hr]
    generalize hg:(Instr.endLoop l).runT P w #[]=g at h1;obtain⟨g1,g2⟩:=g;dsimp only at h1;subst h1;simp only[stepG.exec,hg,bare_after];cases x<;>rfl
   ·intro tail h w w' T J hr;have h1:((Instr.endLoop l).runT P w #[]).1 = .halt h w':=by rw[ko,hr]
    generalize hg:(Instr.endLoop l).runT P w #[]=g at h1;obtain⟨g1,g2⟩:=g;dsimp only at h1;subst h1;cases J with
    | bad J=>
     refine .inl ⟨.stuck "range over a function: no such loop" (Frame.pos P { fn:=fn,tmps:=ts,todo:=.endRangeFunc l::t,defers:=ds,mode:=.run,kind:=.normal,roundOf:=ro }),w',?_⟩;simp only[stepG.exec,hg,bare_after];cases h<;>first|rfl|exact J.elim
    | lost hv e H'=>
     have hq:=y7 (l:=[{ v:=_,recovered:=false }]) (l':=[{ v:=_,recovered:=false }]) (hS.top.mono e) (.cons hv .nil);exact .inr ⟨_,_,eG,_,iF,_,_,_,by simp only[stepG.exec,hg,bare_after];rfl,hS.turn e hq.1 hq.2,H',qL _ _⟩
  | @inRegion ops l ho=>
   cases l with
   | nil=>exact iX H (tot Z) (by simp[stepG.exec,Conc.G]) λtail w=>by simp[stepG.exec,Conc.G,GStep.bare]
   | cons i rest=>
    by_cases hw:(((ops[i]?).map (Region.wanted · (yielded ops ts))).getD false)=true
    ·have hw':(((ops[i]?).map (Region.wanted · (yielded ops I))).getD false)=true:=by rw[<-Lv h4];exact hw
     cases ho':ops[i]? with
     | none=>rw[ho'] at hw;simp at hw
     | some o=>
      have Ϥ:lJ P k o.op=true:=by
       simp only[Array.all_eq_true_iff_forall_mem] at ho;exact ho o (Array.mem_of_getElem? ho')
      have ű:∀c,o.op ≠ .defer c:=λc hc=>by rw[hc] at Ϥ;simp[lJ] at Ϥ
      rw[ho'] at hw hw';simp only[stepG.exec,stepG.oper,Frame.oper?,ho',hw,hw',if_true];have ha:=Ls S hS (ZM S.bt S.bd S.ext Ú.ex S.G S.cm S.mt S.fns ó (λw=>⟨rfl,rfl⟩) o Ϥ) H (cs0:=cs0) (wL:=wL);obtain⟨dst,op,ty,pos,aft,grd⟩:=o;cases h8 with
      | none=>exact ha
      | some J=>cases op<;>first|exact ha|exact absurd rfl (ű _)
    ·have hw':¬ (((ops[i]?).map (Region.wanted · (yielded ops I))).getD false)=true:=by rw[<-Lv h4];exact hw
     have hr:=yZ hS.top (nP (F:=F) (B:=B));exact iX H (hS.turn (Ext.refl _) hr.1 hr.2) (by simp only[stepG.exec,hw',Conc.G];rfl) λtail w=>by simp only[stepG.exec,hw,Conc.G];rfl
end Px
namespace Px
open Go
variable {F:Fs} {P:Program} {k:Ok} {base:Nat} {B:Bl}
def AtEnd(f:Frame)(cs:List Frame):Prop:=cs = []/\f.defers = []/\f.mode ≠ .run
theorem lY{m:Bool}{f:Frame}{cs:List Frame}{w:World}(h:f.mode ≠ .run):stepG P m (Conc.G f cs) w=unwind P m f cs none w:=by
 obtain⟨fn,U,M,H,e,I,J⟩:=f;cases e with
 | run=>exact absurd rfl h
 | returning=>simp[stepG,Conc.G]
 | panicking c=>simp[stepG,Conc.G]
theorem aes{m e:FrameMode}(h:MR F B m e):m = .run↔e = .run:=by
 cases h<;>exact⟨λh=>by cases h<;>rfl,λh=>by cases h<;>rfl⟩
theorem OY(S:Setup F P k){fL fC:Frame}{eG iF cs0:List Frame}(hS:jP F P k B (fL::eG) (fC::iF))(hm:fL.mode ≠ .run)(ϝ:¬ AtEnd fL eG){m:Bool}{wL wC:World}{hL:Array Obj}(H:HR F (KK P k) base B hL wC.heap):
  F8 F P k base B m fL eG fC iF cs0 wL hL wC:=by
 have h:=hS.top;have hm':fC.mode ≠ .run:=λe=>hm ((aes h.mode).2 e)
 unfold F8;simp only[lY hm,lY hm'];obtain⟨fn,Z,todo,ds,md,kd,ro⟩:=fL;obtain⟨fn',U,I,ds',md',kd',M⟩:=fC;obtain⟨J,h2,h3,h4,h5,h6,h7,h8,h9⟩:=h;dsimp only at J h2 h3 h4 h5 h6 h7 h8 h9 hm hm';subst J h2 h3;cases h6 with
 | @cons d d' ds ds' hd hds=>
  cases hd with
  | @mark r r' hr=>
   refine vw (Kk (K:=KK P k) hr) H (λy w=>match y with
     | .ok c=>.go (Conc.G { fn:=fn,tmps:=U,todo:=I,defers:=c++ds',mode:=md',kind:=.normal,roundOf:=M } (iF++cs0)) w
     | .error _=>.ended (.stuck "the deferred calls of a range-over-func loop have been taken" (Frame.pos P { fn:=fn,tmps:=U,todo:=I,defers:={ target:=.collected r',args:=#[] }::ds',mode:=md',kind:=.normal,roundOf:=M })) w)
    (λtail x w=>match x with
     | .ok c=>.go (Conc.G { fn:=fn,tmps:=Z,todo:=todo,defers:=c++ds,mode:=md,kind:=.normal,roundOf:=ro } (eG++tail)) w
     | .error _=>.ended (.stuck "the deferred calls of a range-over-func loop have been taken" (Frame.pos P { fn:=fn,tmps:=Z,todo:=todo,defers:={ target:=.collected r,args:=#[] }::ds,mode:=md,kind:=.normal,roundOf:=ro })) w) fn ?_ ?_ ?_ ?_
   ·intro B' x y hL' hC' n e hx H';cases x with
    | error v=>exact⟨0,.inr λ_ _ _ _=>.inl ⟨_,_,rfl⟩⟩
    | ok x=>cases y with
     | error v'=>exact hx.elim
     | ok y=>
      have Ϡ:oZ B' x y:=hx;exact iX H' (hS.turn e (g:={ fn:=fn,tmps:=Z,todo:=todo,defers:=x++ds,mode:=md,kind:=.normal,roundOf:=ro }) (g':={ fn:=fn,tmps:=U,todo:=I,defers:=y++ds',mode:=md',kind:=.normal,roundOf:=M })
       ⟨rfl,rfl,rfl,h4.mono e,h5.mono e,Ϡ.append (hds.mono e),h7.mono e,h8.mono e,h9⟩ rfl) rfl λ_ _=>rfl
   ·intro y w es _ hr;simp only[unwind,hr];cases y<;>rfl
   ·intro tail x w w' _ hr;have J:((Instr.takeDeferred r).runT P w #[]).1=res x w':=by rw[ko,hr]
    generalize hg:(Instr.takeDeferred r).runT P w #[]=g at J;obtain⟨g1,g2⟩:=g;dsimp only at J;subst J;simp only[unwind,hg,bare_after];cases x<;>rfl
   ·intro tail h w w' T hb hr;have J:((Instr.takeDeferred r).runT P w #[]).1 = .halt h w':=by rw[ko,hr]
    generalize hg:(Instr.takeDeferred r).runT P w #[]=g at J;obtain⟨g1,g2⟩:=g;dsimp only at J;subst J;exact .inl ⟨.stuck "the deferred calls of a range-over-func loop have been taken" (Frame.pos P { fn:=fn,tmps:=Z,todo:=todo,defers:={ target:=.collected r,args:=#[] }::ds,mode:=md,kind:=.normal,roundOf:=ro }),w',by simp only[unwind,hg,bare_after];rfl⟩
 | nil=>
  have ϡ:eG ≠ []:=λe=>ϝ ⟨e,rfl,hm⟩
  obtain⟨Lx,g1⟩:=S.Wt h9;cases h7 with
  | run=>exact absurd rfl hm
  | panicking hp=>
   have Ų:=hS;cases hS with
   | bot=>exact absurd rfl ϡ
   | cons h ht=>
    cases ht with
    | bot h2 h0=>
     have hr:=y7 h2 hp;exact iX H (.bot hr.1 (hr.2.trans h0)) (by simp[unwind,Frame.catches,g1,Conc.G]) λtail w=>by simp[unwind,Frame.catches,g1,GStep.bare,Conc.G]
    | cons h2 ht2=>
     have hr:=y7 h2 hp;exact iX H (.cons hr.1 ht2) (by simp[unwind,Frame.catches,g1,Conc.G]) λtail w=>by simp[unwind,Frame.catches,g1,GStep.bare,Conc.G]
  | returning=>
   refine vw (Wy (K:=KK P k) Lx h4) H (λy w=>match y with
     | .ok v=>doReturn P m { fn:=fn,tmps:=U,todo:=I,defers:=[],mode:=.returning,kind:=.normal,roundOf:=M } (iF++cs0) none v w
     | .error _=>.ended (.stuck "return: the result variables cannot be read" (Frame.pos P { fn:=fn,tmps:=U,todo:=I,defers:=[],mode:=.returning,kind:=.normal,roundOf:=M })) w)
    (λtail x w=>match x with
     | .ok v=>doReturn P true { fn:=fn,tmps:=Z,todo:=todo,defers:=[],mode:=.returning,kind:=.normal,roundOf:=ro } (eG++tail) none v w
     | .error _=>.ended (.stuck "return: the result variables cannot be read" (Frame.pos P { fn:=fn,tmps:=Z,todo:=todo,defers:=[],mode:=.returning,kind:=.normal,roundOf:=ro })) w) fn ?_ ?_ ?_ ?_
   ·intro B' x y hL' hC' n e hx H';cases x with
    | error v=>exact⟨0,.inr λ_ _ _ _=>.inl ⟨_,_,rfl⟩⟩
    | ok x=>cases y with
     | error v'=>exact hx.elim
     | ok y=>exact abp (hS.mono e) ϡ H' hx
   ·intro y w es _ hr;simp only[unwind,g1,hr];cases y<;>rfl
   ·intro tail x w w' _ hr;have J:((results Lx Z).runT P w #[]).1=res x w':=by rw[ko,hr]
    generalize hg:(results Lx Z).runT P w #[]=g at J;obtain⟨g1',g2'⟩:=g;dsimp only at J;subst J;simp only[unwind,g1,hg,bare_after];cases x<;>rfl
   ·intro tail h w w' T hb hr;have J:((results Lx Z).runT P w #[]).1 = .halt h w':=by rw[ko,hr]
    generalize hg:(results Lx Z).runT P w #[]=g at J;obtain⟨g1',g2'⟩:=g;dsimp only at J;subst J;simp only[unwind,g1,hg];cases h<;>exact .inl ⟨_,_,rfl⟩
theorem aeu(S:Setup F P k)(Z:GB F P k B){e J:Frame}{I U cs0:List Frame}(hS:jP F P k B (e::I) (J::U))(ϝ:¬ AtEnd e I){m:Bool}{wL wC:World}{hL:Array Obj}(H:HR F (KK P k) base B hL wC.heap):
  F8 F P k base B m e I J U cs0 wL hL wC:=by
 by_cases M:e.mode = .run
 ·exact aer S Z hS M H
 ·exact OY S hS M ϝ H
