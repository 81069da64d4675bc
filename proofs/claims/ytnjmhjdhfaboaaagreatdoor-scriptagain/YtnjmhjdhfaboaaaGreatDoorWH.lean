import Derived.Test.YtnjmhjdhfaboaaaGreatDoorWG
import Derived.Test.YtnjmhjdhfaboaaaGreatDoorZ
import Derived.Deep.CutBlock
set_option maxRecDepth 1000000
set_option maxHeartbeats 2000000
open Nat (le_refl le_trans zero_add zero_le)
open List
open Go.Proofs.Tryz
namespace Go.Proofs.YtnjmhjdhfaboaaaGreatDoor
open Go.RowKit Go.Maps aV aD aU
theorem Č{p:Prop}(h:p):Go.RowKit.Hid p:=h
def XI(w w':World)(lb:Nat)(last t:Int)(pts:List (Int×Nat))(e:Ending):Prop:=
 ∃v1 v2,e = .returned v1/\Kept [lb] w w'/\w'.heap[lb]? = some (.cells #[v2,.int .i64 last] 238 (0,0))/\w'.ownsRow w.heap.size 93 2 v1 (kN t pts).length (aF (kN t pts))/\w'.ownsRow w.heap.size 93 2 v2 (lU t pts).length (aF (lU t pts))/\(v1.ownBlock=none\/v1.ownBlock≠v2.ownBlock)/\(lU t pts = []->v2 = .slice none 0 0)
def aeR:Nat->Code->Code
 | 0,c=>c
 | n+1,.seq _ b=>aeR n b
 | _+1,c=>c
noncomputable def ak7:Code:=aeR 3 (Tryz.f101.body.getD .skip)
theorem aal{w:World}{a:Option Addr}{l:List (Int×Nat)}(h:mG w a l)(k:Nat):mG w a (l.take k):=by
 rcases h with h|⟨b,o,h,z⟩
 ·exact .inl (by rw[h];simp)
 ·refine .inr ⟨b,o,h,λj A=>?_⟩;have q:j<l.length:=by simp at A;omega
  have:=z j q;rw[getElem_take];exact this
theorem aam{w:World}{b o:Nat}{l:List (Int×Nat)}(h:mG w (some ⟨b,o,none⟩) l)(k:Nat):mG w (some ⟨b,o+k*2,none⟩) (l.drop k):=by
 rcases h with h|⟨b',D,h,z⟩
 ·exact .inl (by rw[h];simp)
 ·injection h with h;injection h with h1 h2;subst h1 h2;refine .inr ⟨b,o+k*2,rfl,λj A=>?_⟩;have q:k+j<l.length:=by simp at A;omega
  have:=z (k+j) q;rw[getElem_drop];rw[show o+(k+j)*2=o+k*2+j*2 by omega] at this;exact this
theorem Li(w:World):Hq w w (.slice none 0 0) []:=⟨⟨rfl,.inl ⟨rfl,rfl⟩⟩,Below.refl _ _⟩
theorem lg{wr:World}{q:Array Oper}{j:List Oper}{o:Oper}{a:Act}{Q:Exit->Act->World->Prop}(I:o.guard=none)(s x:Operand)
  (F:o.op = .call { callee:=.builtin .append,args:=#[s,x],argTypes:=#[102,102] })
  (G:a.eval s = .slice none 0 0) (y:Option Addr) (n z:Nat) (l:List (Int×Nat)) (D:l.length=n) (H:a.eval x = .slice y n z) (J:mG wr y l) (U:l.length<=100000)
  (h:∀v' w1,Hq wr w1 v' l->(l = []->v' = .slice none 0 0)->wpList prog q Q j (a.put o.dst v') w1):wpList prog q Q (o::j) a wr:=by
 by_cases A:l = []
 ·subst A;have:=D.symm;subst this;obtain⟨R,K,W,V,Y⟩:=info_parts Tryz.infoPt;refine qY I s x 102 F 0 93 R 2 underlying102 K (.slice none 0 0) 0 [] G ⟨rfl,.inl ⟨rfl,rfl⟩⟩ y z H ?_;exact h _ wr (Li _) (λ_=>rfl)
 ·refine Ib I s x F _ [] G (Li _) y n z l D H J (by simpa using U) (λv' w1 O=>?_);exact h v' w1 (by simpa using O) (λe=>absurd e A)
theorem Eo{w w1 O:World}{lb:Nat}{v v1 D:Value}{last t:Int}{j:List (Int×Nat)}{k:Nat}(Q:w.heap[lb]? = some (.cells #[v,.int .i64 last] 238 (0,0)))(q:Hq w w1 v1 (j.take k))(z:Hq w1 O D (j.drop k))(Ŭ:j.drop k = []->D = .slice none 0 0)(V:kN t j=j.take k)(K:lU t j=j.drop k):
  XI w (O.setCell ⟨lb,0,none⟩ D) lb last t j (.returned v1):=by
 have Ì:=aC Q;have J:=q.aI.trans (z.aI.mono q.aI.size);have H:=q.own;have Z:=z.own;refine⟨v1,D,rfl,(Kept.of_below J).setCell (.inl rQ) _,(dw ((J.block lb Ì).trans Q) 0 _).trans rQ,?_,?_,?_,by rw[K];exact Ŭ⟩
 ·rw[V];refine bC (bC H λg o=>z.aI.block g (aH H o).2.1) λg o=>Below.heap_setCell _ _ _ _ (λe=>?_)
  have:=(aH H o).1;simp at e;omega
 ·rw[K];obtain⟨q1,I⟩:=Z;have Y:=q.aI.size;refine bC ⟨q1,?_⟩ λg o=>Below.heap_setCell _ _ _ _ (λe=>?_)
  ·rcases I with I|⟨g,F,G,W,o,A⟩
   ·exact .inl I
   ·exact .inr ⟨g,F,G,W,le_trans Y o,A⟩
  ·have:=(aH z.own o).1;simp at e;omega
 ·cases R:v1.ownBlock with
  | none=>exact .inl rfl
  | some g=>
   refine .inr (λU=>?_);have a1:=(aH q.own R).2.1;have a2:=(aH z.own U.symm).1;omega
theorem aan(w:World)(lb:Nat)(v:Value)(last t:Int)(j:List (Int×Nat))(î:w.heap[lb]? = some (.cells #[v,.int .i64 last] 238 (0,0)))(ϟ:w.ownsRow 0 93 2 v j.length (aF j))(Ŭ:j = []->v = .slice none 0 0)(hn:j.length<=1000)(k:Nat)(hk:k<=j.length)(hg:kN t j=j.take k)(hl:lU t j=j.drop k)(x2 x3 x4 x6 x7 x8 x9 x10 x11 x12 x13 x14 x15 x16 x17 x18 x19 x20 x21 x22 x23 x24 x25 x26 x27 x28 x29 x30 x31 x32 x33 x34 x35 x36 x37 x38 x39 x40 x41 x42 x43 x44 x45:Value):
  Code.wp prog ak7 (bodyPost prog Tryz.f101 λe w'=>XI w w' lb last t j e) ⟨#[.pointer (some ⟨lb,0,none⟩),.int .i64 t,x2,x3,x4,.int .i64 (k:Int),x6,x7,x8,x9,x10,x11,x12,x13,x14,x15,x16,x17,x18,x19,x20,x21,x22,x23,x24,x25,x26,x27,x28,x29,x30,x31,x32,x33,x34,x35,x36,x37,x38,x39,x40,x41,x42,x43,x44,x45],[]⟩ w:=by
 conv=>arg 2;whnf
 have O:=Č î;have Q:=Č (And.intro hg hl);have c0:w.cell? ⟨lb,0,none⟩=some v:=by simp[World.cell?,î]
 have Ì:=aC î;by_cases hp:j = []
 ·have hv:=Ŭ hp;subst hp hv;have Ý:k=0:=by simpa using hk
  subst Ý;go_wp2_with (at_builtin;refine lg rfl _ _ rfl rfl none 0 0 (([]:List (Int×Nat)).take 0) rfl rfl (.inl rfl) rQ ?_);intro v1 w1 K ÿ;have U:=ÿ;subst U;have A:=Č K;have c1:=(K.aI.cell (p:=⟨lb,0,none⟩) Ì).trans c0;go_wp2_with (at_builtin;refine lg rfl _ _ rfl rfl none 0 0 (([]:List (Int×Nat)).drop 0) rfl rfl (.inl rfl) rQ ?_);intro Z I z ģ;have J:=((A.out.aI.trans (z.aI.mono A.out.aI.size)).block lb Ì).trans O.out;have c2:I.cell? ⟨lb,0,none⟩=some (.slice none 0 0):=by simp[World.cell?,J]
  have f2:I.frozen? ⟨lb,0,none⟩=false:=by simp[World.frozen?,J]
  obtain⟨q,H,F,ŉ⟩:∃q H F,Z = .slice q H F:=by obtain⟨q,W,Y,_⟩:=gT z.own;exact⟨_,_,_,Y⟩
  have R:=Č (Eo O.out A.out z (λ_=>ģ) Q.out.1 Q.out.2);subst ŉ;go_wp2;go_ret;exact R.out
 ·obtain⟨a',o,hv,Ρ,ĸ,G⟩:=gT ϟ;obtain⟨g,rfl,_,_⟩:=G hp;subst hv;obtain⟨D,Ó⟩:=bF j.length;have Ģ:0<D:=by rw[Ó];exact length_pos_iff.2 hp
  have Gp:=Č Ó;have uX:=Č ĸ;rw[<-Ó] at Ρ hk hn c0 O;have hcap0:o≠0:=fM;have aro:(o:Int)≠0:=fM;clear ϟ î hg hl ĸ Ó hp Ŭ G;by_cases Ĥ:k=0
  ·subst Ĥ;go_wp2_with (at_builtin;refine lg rfl _ _ rfl rfl (some ⟨g,0,none⟩) 0 o (j.take 0) rQ rfl (.inl rQ) rQ ?_);intro v1 w1 K ÿ;have U:=ÿ;subst U;have A:=Č K;have c1:=(K.aI.cell (p:=⟨lb,0,none⟩) Ì).trans c0;have V:Hid (mG w1 (some ⟨g,0,none⟩) (j.drop 0)):=by rw[drop_zero];exact mG.below uX.out K.aI
   go_wp2_with (at_builtin;refine lg rfl _ _ rfl rfl (some ⟨g,0,none⟩) D o (j.drop 0) (by rw[drop_zero];exact Gp.out.symm) rfl V.out (by rw[drop_zero,<-Gp.out];omega) ?_);intro Z I z ģ;have J:=((A.out.aI.trans (z.aI.mono A.out.aI.size)).block lb Ì).trans O.out;have c2:I.cell? ⟨lb,0,none⟩=some (.slice (some ⟨g,0,none⟩) D o):=by simp[World.cell?,J]
   have f2:I.frozen? ⟨lb,0,none⟩=false:=by simp[World.frozen?,J]
   obtain⟨q,H,F,ŉ⟩:∃q H F,Z = .slice q H F:=by obtain⟨q,W,Y,_⟩:=gT z.own;exact⟨_,_,_,Y⟩
   have R:=Č (Eo O.out A.out z (λh=>ģ (by simpa using h)) Q.out.1 Q.out.2);subst ŉ;go_wp2;go_ret;exact R.out
  ·have Ý:(0:Int)<=k:=fM;have ϓ:(k:Int)<=D:=fM;have hkc:(k:Int)<=o:=fM;go_wp2_with (at_builtin;refine lg rfl _ _ rfl rfl (some ⟨g,0,none⟩) k o (j.take k) (by rw[length_take];have:=Gp.out;omega) rfl (aal uX.out k) (by rw[length_take];have:=Gp.out;omega) ?_);intro v1 w1 K _;have A:=Č K;have c1:=(K.aI.cell (p:=⟨lb,0,none⟩) Ì).trans c0;have V:=Č (aam (mG.below uX.out K.aI) k);have Rc:Hid ((j.drop k).length=D-k):=by show _=_;rw[length_drop,Gp.out]
   by_cases ak8:k=o
   ·have aol:D=k:=fM;subst ak8 aol;have Lj:Hid (j.drop D = []):=by rw[Gp.out];exact drop_length
    go_wp2_with (at_builtin;refine lg rfl _ _ rfl rfl (some ⟨g,0,none⟩) 0 0 (j.drop D) (by rw[Lj.out];rfl) rfl (.inl Lj.out) (by rw[Lj.out];simp) ?_);intro Z I z ģ;have J:=((A.out.aI.trans (z.aI.mono A.out.aI.size)).block lb Ì).trans O.out;have c2:I.cell? ⟨lb,0,none⟩=some (.slice (some ⟨g,0,none⟩) D D):=by simp[World.cell?,J]
    have f2:I.frozen? ⟨lb,0,none⟩=false:=by simp[World.frozen?,J]
    obtain⟨q,H,F,ŉ⟩:∃q H F,Z = .slice q H F:=by obtain⟨q,W,Y,_⟩:=gT z.own;exact⟨_,_,_,Y⟩
    have R:=Č (Eo O.out A.out z (λh=>ģ (by simpa using h)) Q.out.1 Q.out.2);subst ŉ;go_wp2;go_ret;exact R.out
   ·have ar1:(k:Int)≠(o:Int):=fM;go_wp2_with (at_builtin;refine lg rfl _ _ rfl rfl (some ⟨g,k*2,none⟩) (D-k) (o-k) (j.drop k) Rc.out rfl (by have:=V.out;rw[zero_add] at this;exact this) (by rw[Rc.out];omega) ?_);intro Z I z ģ;have J:=((A.out.aI.trans (z.aI.mono A.out.aI.size)).block lb Ì).trans O.out;have c2:I.cell? ⟨lb,0,none⟩=some (.slice (some ⟨g,0,none⟩) D o):=by simp[World.cell?,J]
    have f2:I.frozen? ⟨lb,0,none⟩=false:=by simp[World.frozen?,J]
    obtain⟨q,H,F,ŉ⟩:∃q H F,Z = .slice q H F:=by obtain⟨q,W,Y,_⟩:=gT z.own;exact⟨_,_,_,Y⟩
    have R:=Č (Eo O.out A.out z (λh=>ģ (by simpa using h)) Q.out.1 Q.out.2);subst ŉ;go_wp2;go_ret;exact R.out
theorem Ur(w:World)(lb:Nat)(v:Value)(last t:Int)(j:List (Int×Nat))(î:w.heap[lb]? = some (.cells #[v,.int .i64 last] 238 (0,0)))(ϟ:w.ownsRow 0 93 2 v j.length (aF j))(Ŭ:j = []->v = .slice none 0 0)(hn:j.length<=1000)(hr:j.Pairwise λp q=>p.1<q.1):
  Calls prog 101 #[.pointer (some ⟨lb,0,none⟩),.int .i64 t] w λe w'=>XI w w' lb last t j e:=by
 have Q:=Č (And.intro î (And.intro ϟ Ŭ));have HR:=Č hr;have c0:w.cell? ⟨lb,0,none⟩=some v:=by simp[World.cell?,î]
 obtain⟨a',cap,hv,Ρ,ĸ,D⟩:=gT ϟ;subst hv;have Y:=Č (And.intro ĸ D);obtain⟨F,Z⟩:=bF j.length;have I:=Č Z;rw[<-Z] at Ρ hn c0;go_enter func101,ntmps101;go_upto_block 0 with fail;go_cut [5] (λz wx=>wx=w/\∃k:Nat,z = .int .i64 (k:Int)/\k<=F/\(∀i (G:i<j.length),i<k->(j[i]).1<t)/\(∀A:k<j.length,t<=(j[k]).1));case first=>
  go_wp2_with fail;go_loopw [5] (λz wr=>wr=w/\∃k:Nat,z = .int .i64 (k:Int)/\k<=F/\(∀i (G:i<j.length),i<k->(j[i]).1<t)) (λz _=>F-(intOf z).toNat);case atStart=>exact⟨rfl,0,rfl,zero_le _,λi _ h=>absurd h fM⟩
  case round=>
   obtain⟨rfl,k,rfl,A,ϗ⟩:=hrel;have R:=Č ϗ;by_cases ϣ:k<F
   ·have V:k<j.length:=by rw[<-I.out];exact ϣ
    have H:j ≠ []:=λe=>by rw[e] at V;simp at V
    obtain⟨g,rfl,_,_⟩:=Y.out.2 H;have Ϧ:wr.cell? ⟨g,k*2,none⟩=some (.int .i64 (j[k]).1):=by
     rcases Y.out.1 with h|⟨b,o,h,hc⟩
     ·exact absurd h H
     ·injection h with h;injection h with J K;subst J K;have:=(hc k V).1;rwa [zero_add] at this
    have Ý:(0:Int)<=k:=fM;have ϓ:(k:Int)<F:=fM;obtain⟨U,ê⟩:=bF ((j[k]).1);rw[<-ê] at Ϧ;have W:=Č ê;by_cases O:U<t
    ·have d0:decide (U<t)=true:=decide_eq_true O;go_wp2;go_roundw;case rel=>exact⟨by first|rfl|trivial,k+1,rU,fM,λi G h=>if h':i<k then R.out i G h' else (by have e:=(show i=k by omega);subst e;rw[<-W.out];exact O)⟩
     case measure=>simp[intOf]<;>omega
    ·have d0:decide (U<t)=false:=decide_eq_false O;go_wp2_with fail;go_meet;case rel=>exact⟨by first|rfl|trivial,k,by first|rfl|trivial,A,R.out,λ_=>by rw[<-W.out];omega⟩
   ·have θ:(F:Int)<=k:=fM;go_wp2_with fail;go_meet;case rel=>exact⟨by first|rfl|trivial,k,by first|rfl|trivial,A,R.out,λh=>absurd h (by rw[<-I.out];omega)⟩
 case rest=>
  obtain⟨rfl,k,rfl,A,J,K⟩:=hcut;rw[I.out] at A;obtain⟨e1,e2⟩:=P5 t j HR.out k A (λi G hl=>J i hl G) K;have Ø:=I.out;apply_assumption;exact aan _ lb _ last t j (by have:=Q.out.1;exact this) Q.out.2.1 Q.out.2.2 fM k A e1 e2 _ _ _ _ _ _ _ _ _ _ _ _ _ _ _ _ _ _ _ _ _ _ _ _ _ _ _ _ _ _ _ _ _ _ _ _ _ _ _ _ _ _ _
theorem dL.af9{w w':World}{hb R:Nat}{S:List Sr}{H:List UInt8->Nat}{F:List UInt8->Value}(h:dL w hb R S H F)(hS:S.Pairwise λa b=>a.key<b.key){l:Sr}(O:l∈S){t:Int}{o:Value}(hk:Kept [H l.key] w w')(vT:w'.heap[H l.key]? = some (.cells #[o,.int .i64 l.last] 238 (0,0)))
  (ϟ:w'.ownsRow w.heap.size 93 2 o (lU t l.pts).length (aF (lU t l.pts))) (Ŭ:lU t l.pts = []->o = .slice none 0 0) :
  dL w' hb R (S.map λx=>if x.key=l.key then sW t x else x) H (λx=>if x=l.key then o else F x)/\∀x,x∈foot R (S.map λx=>if x.key=l.key then sW t x else x) H (λx=>if x=l.key then o else F x)->x∈foot R S H F\/w.heap.size<=x:=by
 have G:∀y,y∈(S.map λx=>if x.key=l.key then sW t x else x)->(y∈S/\y.key≠l.key)\/y=sW t l:=λy q=>by
  obtain⟨x,J,rfl⟩:=mem_map.1 q;by_cases e:x.key=l.key
  ·have:=uniq hS J O e;subst this;rw[if_pos rfl];exact .inr rfl
  ·rw[if_neg e];exact .inl ⟨J,e⟩
 have Ī:=h.line l O;have A:∀b,b<w.heap.size->b≠H l.key->w'.heap[b]? = w.heap[b]?:=λb Y h2=>hk.block b Y (by simpa using h2)
 obtain⟨D,Y,h2,h3,h4⟩:=h.map;have ϣ:∀k,known (S.map λx=>if x.key=l.key then sW t x else x) k=known S k:=λk=>by
  have:∀x:Sr,(if x.key=l.key then sW t x else x).key=x.key:=λx=>by split<;>rfl
  simp only[known,any_map,Function.comp_def,this]
 have ό:∀g,o.ownBlock=some g->w.heap.size<=g:=λg K=>(aH ϟ K).1
 refine⟨⟨?_,⟨D,?_,by rw[length_map];exact h2,λk=>by rw[ϣ];exact h3 k,λy q z=>?_⟩,λy q=>?_,λy q=>?_,λx y J q e=>?_,λx y J q e=>?_,λy q=>?_,λy q hp=>?_⟩,λx J=>?_⟩
 ·rw[A hb (aC h.head) (iV h.head Ī lJ)];exact h.head
 ·rw[length_map];exact jv Y (A R Y.lt (λe=>h.kU Ī e.symm))
 ·rcases G y q with⟨j,_⟩|rfl
  ·exact h4 y j z
  ·exact h4 l O z
 ·rcases G y q with⟨j,Ϙ⟩|rfl
  ·rw[if_neg Ϙ,A _ (aC (h.line y j)) (λe=>Ϙ (h.inj y l j O e))];exact h.line y j
  ·show w'.heap[H l.key]? = some (.cells #[if l.key=l.key then o else _,.int .i64 l.last] 238 (0,0));rw[if_pos rfl];exact vT
 ·rcases G y q with⟨j,Ϙ⟩|rfl
  ·rw[if_neg Ϙ];refine bC (h.row y j) λg K=>?_
   obtain⟨_,ϗ,U,hc⟩:=aH (h.row y j) K;exact A g ϗ (iV hc Ī lJ)
  ·show w'.ownsRow 0 93 2 (if l.key=l.key then o else _) (lU t l.pts).length (aF (lU t l.pts));rw[if_pos rfl];obtain⟨q1,q2⟩:=ϟ;refine⟨q1,?_⟩;rcases q2 with q2|⟨g,Z,U,hv,_,W⟩
   ·exact .inl q2
   ·exact .inr ⟨g,Z,U,hv,zero_le _,W⟩
 ·have V:∀z,z∈(S.map λx=>if x.key=l.key then sW t x else x)->∃y,y∈S/\y.key=z.key:=λz Q=>by
   rcases G z Q with⟨hz',_⟩|rfl
   ·exact⟨z,hz',rfl⟩
   ·exact⟨l,O,rfl⟩
  obtain⟨x',I,ex⟩:=V x J;obtain⟨y',j,ey⟩:=V y q;rw[<-ex,<-ey] at e ⊢;exact h.inj x' y' I j e
 ·have qX:∀z,z∈S->(F z.key).ownBlock=none\/(F z.key).ownBlock≠o.ownBlock:=λz Q=>by
   cases e1:(F z.key).ownBlock with
   | none=>exact .inl rfl
   | some g=>
    refine .inr (λe2=>?_);have a1:=(aH (h.row z Q) e1).2.1;have a2:=ό g e2.symm;omega
  rcases G x J with⟨I,Ϙ⟩|rfl
  ·rcases G y q with⟨j,hne'⟩|rfl
   ·rw[if_neg Ϙ,if_neg hne'];exact h.apart x y I j e
   ·show (if x.key=l.key then o else F x.key).ownBlock=none\/(if x.key=l.key then o else F x.key).ownBlock≠(if l.key=l.key then o else _).ownBlock;rw[if_neg Ϙ,if_pos rfl];exact qX x I
  ·rcases G y q with⟨j,hne'⟩|rfl
   ·show (if l.key=l.key then o else _).ownBlock=none\/(if l.key=l.key then o else _).ownBlock≠(if y.key=l.key then o else F y.key).ownBlock;rw[if_pos rfl,if_neg hne'];cases e1:o.ownBlock with
    | none=>exact .inl rfl
    | some g=>
     refine .inr (λe2=>?_);have a1:=(aH (h.row y j) e2.symm).2.1;have a2:=ό g e1;omega
   ·exact absurd rfl e
 ·rcases G y q with⟨j,_⟩|rfl
  ·exact h.len y j
  ·exact h.len l O
 ·rcases G y q with⟨j,Ϙ⟩|rfl
  ·rw[if_neg Ϙ];exact h.nil y j hp
  ·show (if l.key=l.key then o else _)=_;rw[if_pos rfl];exact Ŭ hp
 ·rcases xu J with rfl|⟨z,Q,rfl⟩|⟨z,Q,K⟩
  ·exact .inl (Ak ..)
  ·rcases G z Q with⟨hz',_⟩|rfl
   ·exact .inl (rz hz')
   ·exact .inl (show H l.key∈foot R S H F from rz O)
  ·rcases G z Q with⟨hz',Ϙ⟩|rfl
   ·rw[if_neg Ϙ] at K;exact .inl (xq hz' K)
   ·have:(if l.key=l.key then o else F l.key).ownBlock=some x:=K;rw[if_pos rfl] at this;exact .inr (ό x this)
theorem Gq{w w':World}{j:Nat}{e:TypeId}{o:Nat}{v:Value}{n:Nat}{xs:List Value}(h:w.ownsRow j e o v n xs){lb:Nat}(D:Kept [lb] w w'){cs:Array Value}{t:TypeId}{f:Nat×Nat}(F:w.heap[lb]? = some (.cells cs t f))(H:e≠t):w'.ownsRow j e o v n xs:=
 bC h λg A=>by
  obtain⟨_,G,q,z⟩:=aH h A;exact D.block g G (by simpa using iV z F H)
theorem dL.grown{w w':World}{G H:Nat}{S:List Sr}{D:List UInt8->Nat}{I:List UInt8->Value}(h:dL w G H S D I){o:Nat}{r:Value}{m:Nat}{R:List Value}(Q:w.ownsRow o 104 2 r m R)(O:w.grownBy w' r.ownBlock):dL w' G H S D I:=by
 refine h.same λb j=>O.block b (h.lt j) (λK=>?_)
 obtain⟨_,_,J,q⟩:=aH Q K.symm;rcases j with rfl|j
 ·exact iV h.head q lJ rfl
 ·rcases xu j with rfl|⟨l,A,rfl⟩|⟨l,A,U⟩
  ·exact h.kU q rfl
  ·exact iV (h.line l A) q lJ rfl
  ·obtain⟨_,_,F,z⟩:=aH (h.row l A) U;exact iV z q lJ rfl
structure Gr(w wr:World)(hb mb:Nat)(S:List Sr)(bl:List UInt8->Nat)(sv:List UInt8->Value)(t:Int)(vn r:Value)(ss:List (List UInt8))(j:Nat)(Jf:List UInt8->Value)(xs:List Value):Prop where
 head:dL wr hb mb (pU t (ss.take j) S) bl Jf
 sub:∀x,x∈foot mb (pU t (ss.take j) S) bl Jf->x∈foot mb S bl sv\/w.heap.size<=x
 kept:Kept (foot mb S bl sv) w wr
 names:wr.ownsRow w.heap.size 9 1 vn ss.length (ss.map encStr)
 row:wr.ownsRow w.heap.size 104 2 r (nE t S (ss.take j)).length xs
 pts:eO wr w.heap.size xs (nE t S (ss.take j))
 nil:nE t S (ss.take j) = []->r = .slice none 0 0
def aiv(aN:Addr)(w w':World)(hb mb:Nat)(S:List Sr)(bl:List UInt8->Nat)(sv:List UInt8->Value)(t:Int)(e:Ending):Prop:=
 ∃oC,dL w' hb mb (sU t S) bl oC/\(∀x,x∈foot mb (sU t S) bl oC->x∈foot mb S bl sv\/w.heap.size<=x)/\Kept (foot mb S bl sv) w w' /\
  ((uo t S = []/\e = .returned (.tuple #[.slice none 0 0,.iface 397 (.pointer (some aN))])) \/
   (uo t S ≠ []/\∃r xs,e = .returned (.tuple #[r,.nilIface])/\w'.ownsRow w.heap.size 104 2 r (uo t S).length xs/\eO w' w.heap.size xs (uo t S)))
theorem take_succ{o:Type}{l:List o}{j:Nat}(h:j<l.length):l.take (j+1)=l.take j ++ [l[j]]:=by rw[take_succ_eq_append_getElem h]
theorem Ox{l:List (List UInt8)}(A:l.Nodup){j:Nat}(h:j<l.length):l[j]∉l.take j:=λz=>by
 obtain⟨i,q,e⟩:=mem_iff_getElem.1 z;rw[getElem_take] at e;have o:i<j:=by simp at q;omega
 exact absurd e (pairwise_iff_getElem.1 A i j fM h o)
theorem Ru(k:List UInt8):(⟨k.toArray⟩:ByteArray).data.toList=k:=rQ
theorem Gr.step{w wr o:World}{hb D:Nat}{S:List Sr}{q:List UInt8->Nat}{U:List UInt8->Value}{t:Int}{vn r:Value}{ss:List (List UInt8)}{j:Nat}{Jf:List UInt8->Value}{xs:List Value}(h:Gr w wr hb D S q U t vn r ss j Jf xs)(O:S.Pairwise λa b=>a.key<b.key)(Ž:ss=bZ S)(hj:j<ss.length)
  {l:Sr} (Q:l∈S) (W:l.key=ss[j]) {v1 V:Value} (z:Kept [q l.key] wr o) (vT:o.heap[q l.key]? = some (.cells #[V,.int .i64 l.last] 238 (0,0))) (ϯ:o.ownsRow wr.heap.size 93 2 v1 (kN t l.pts).length (aF (kN t l.pts))) (í:o.ownsRow wr.heap.size 93 2 V (lU t l.pts).length (aF (lU t l.pts))) (Ŭ:lU t l.pts = []->V = .slice none 0 0) :
  ∃Rv,dL o hb D (pU t (ss.take (j+1)) S) q Rv/\(∀x,x∈foot D (pU t (ss.take (j+1)) S) q Rv->x∈foot D S q U\/w.heap.size<=x)/\Kept (foot D S q U) w o/\o.ownsRow w.heap.size 9 1 vn ss.length (ss.map encStr)/\o.ownsRow w.heap.size 104 2 r (nE t S (ss.take j)).length xs/\eO o w.heap.size xs (nE t S (ss.take j)) /\
   o.ownsRow w.heap.size 93 2 v1 (kN t (fG S (ss[j]))).length (aF (kN t (fG S (ss[j])))):=by
 have A:=Ox (by rw[Ž];exact yM O) hj;have Z:l∈pU t (ss.take j) S:=P7 Q (by rw[W];exact A);have Y:=h.head.line l Z;obtain⟨q1,q2⟩:=h.head.af9 (TI t _ O) Z z vT í Ŭ;have he:(pU t (ss.take j) S).map (λx=>if x.key=l.key then sW t x else x)=pU t (ss.take (j+1)) S:=by rw[take_succ hj,YV _ _ _ A,W]
 rw[he] at q1 q2;have iq:=h.kept.size;refine⟨_,q1,λx G=>?_,h.kept.trans z (λx G=>?_),Gq h.names z Y lJ,Gq h.row z Y lJ,h.pts.map λv n ys R=>Gq R z Y lJ,?_⟩
 ·rcases q2 x G with K|K
  ·exact h.sub x K
  ·exact .inr (le_trans iq K)
 ·simp at G;subst G;exact .inl (rz Q)
 ·rw[Dw O Q W];obtain⟨a1,H⟩:=ϯ;refine⟨a1,?_⟩;rcases H with H|⟨g,I,J,R,hg,F⟩
  ·exact .inl H
  ·exact .inr ⟨g,I,J,R,le_trans iq hg,F⟩
theorem ac8(w:World)(aN:Addr)(hE:w.cell? ⟨4,0,none⟩=some (.iface 397 (.pointer (some aN))))(Q H:Nat)(S:List Sr)(G:List UInt8->Nat)(I:List UInt8->Value)(h:dL w Q H S G I)(qX:4∉foot H S G I)(hW:Well S)(hn:S.length<=1000)(hc:∀l,l∈S->l.pts.length<=1000)(t:Int):
  Calls prog 67 #[.pointer (some ⟨Q,0,none⟩),.int .i64 t] w λe w'=>aiv aN w w' Q H S G I t e:=by
 have HH:=Č h;have hEl:=World.block_lt_of_cell? w ⟨4,0,none⟩ hE;have tN:Hid (∀z,Kept (foot H S G I) w z->z.cell? ⟨4,0,none⟩=some (.iface 397 (.pointer (some aN)))):=λz F=>(World.cell?_of_block (F.block _ hEl qX)).trans hE
 have jN:=Č (Je w Q H S G I h hW.sorted hn);have HW:=Č hW;have HC:=Č hc;obtain⟨ss,Ž⟩:=bF (bZ S);have y9:=Č Ž;have ę:ss.length<=1000:=by rw[Ž,bZ,length_map];exact le_trans (length_filter_le ..) hn
 rw[<-Ž] at jN;go_enter func67,ntmps67;go_wp2_with fail;refine Calls.mono jN.out ?_;rintro e w1 ⟨vn,rfl,ώ,Ä⟩;obtain⟨Z,cn,hvn⟩:∃Z cn,vn = .slice Z ss.length cn:=by
  rcases Ä.2 with⟨A,h2⟩|⟨g,cap,cur,A,_⟩
  ·exact⟨none,0,by rw[h2];exact A⟩
  ·exact⟨_,_,A⟩
 subst hvn;have H0:Hid (Gr w w1 Q H S G I t (.slice Z ss.length cn) (.slice none 0 0) ss 0 I []):=by
  refine⟨by rw[take_zero,P6];exact HH.out.below ώ,λx hx=>.inl (by rw[take_zero,P6] at hx;exact hx),Kept.of_below ώ,Ä,?_,?_,λ_=>rfl⟩
  ·rw[take_zero];exact⟨rfl,.inl ⟨rfl,rfl⟩⟩
  ·rw[take_zero];exact trivial
 obtain⟨iR,hI,hI0,hI1,hI2⟩:=info_parts Tryz.infoARow;have qA:=Č hI;obtain⟨nn,Ϝ⟩:=bF ss.length;have iI:=Č Ϝ;rw[<-Ϝ] at H0 ę ⊢;clear Ϝ;go_wp2_with fail;go_loopw [6,13] (λr i wr=>∃(j:Nat) (Jf:List UInt8->Value) (xs:List Value),i = .int .i64 (j:Int)/\j<=nn/\Gr w wr Q H S G I t (.slice Z nn cn) r ss j Jf xs) (λ_ i _=>nn-(intOf i).toNat);case atStart=>exact⟨0,I,[],rfl,zero_le _,H0.out⟩
 case round=>
  obtain⟨j,Jf,xs,rfl,hj,ŷ⟩:=hrel;have o:=Č ŷ;by_cases hjn:j<nn
  ·have J:j<ss.length:=by rw[<-iI.out];exact hjn
   obtain⟨k,hk⟩:=bF (ss[j]);have Α:k∈bZ S:=by rw[<-y9.out,hk];exact getElem_mem ..
   obtain⟨l,hl,Ö,_⟩:=ig.1 Α;have hnt:=Ox (by rw[y9.out];exact yM HW.out.sorted) J;have Lp:l∈pU t (ss.take j) S:=P7 hl (by rw[Ö,hk];exact hnt);have ù:k.length<=1000:=by rw[<-Ö];exact o.out.head.len l Lp
   have hcn:Z=none\/∃g,Z=some ⟨g,0,none⟩/\wr.cell? ⟨g,j,none⟩=some (.string ⟨k.toArray⟩):=by
    rcases o.out.names.2 with⟨A,_⟩|⟨g,cap,cur,A,_,hh,_,_,_,h4⟩
    ·injection A with A;exact .inl A
    ·injection A with A;refine .inr ⟨g,A,?_⟩;have:cur[j]? = (ss.map encStr)[j]?:=by rw[<-h4,List.getElem?_take_of_lt fM];simp
     rw[List.getElem?_map,List.getElem?_eq_getElem J,<-hk] at this;simp[World.cell?,hh,this,encStr]
   have ϥ:∃g,Z=some ⟨g,0,none⟩/\wr.cell? ⟨g,j,none⟩=some (.string ⟨k.toArray⟩):=by
    rcases hcn with A|A
    ·rcases o.out.names.2 with⟨_,h2⟩|⟨g,_,_,h2,_⟩
     ·omega
     ·injection h2 with h2;rw[A] at h2;cases h2
    ·exact A
   obtain⟨g,rfl,cn0⟩:=ϥ;have pY:(Instr.lookup 198 (.map (some H)) (.string ⟨k.toArray⟩) false).run prog wr = .ok (.pointer (some ⟨G l.key,0,none⟩)) wr:=by
    rcases o.out.head.look ⟨k.toArray⟩ (by show k.toArray.size<=1000;simpa using ù) with⟨A,_⟩|⟨l',_,h2,h3⟩
    ·rw[Ru] at A;rw[dD.2 ⟨l,Lp,Ö⟩] at A;cases A
    ·rw[Ru,<-Ö] at h2;rw[h2] at h3;exact h3
   have c0:=o.out.head.cell;have HLC:=Č (Ur wr (G l.key) (Jf l.key) l.last t l.pts (o.out.head.line l Lp) (o.out.head.row l Lp) (o.out.head.nil l Lp) (HC.out l hl) (HW.out.rise l hl));have Ĝ:(0:Int)<=j:=fM;have hj1:(j:Int)<nn:=fM;have Rt:=Č (Ö.trans hk);have HLM:=Č hl;have HK:=Č hk;clear hcn Α hnt Lp ù Ö hk hl;go_wp2_with fail;refine Calls.mono HLC.out ?_;rintro e R ⟨v1,v2,rfl,È,aiw,ğ,Î,_,aix⟩;obtain⟨Rv,q1,q2,q3,q4,q5,q6,q7⟩:=o.out.step HW.out.sorted y9.out J HLM.out Rt.out È aiw ğ Î aix;obtain⟨gp,hgp⟩:=bF (kN t (fG S (ss[j])));rw[<-hgp] at q7;have EH:Hid (nE t S (ss.take (j+1))=nE t S (ss.take j)++if gp.isEmpty=true then [] else [(ss[j],gp)]):=by show _=_;rw[take_succ J,Wp,hgp]
   obtain⟨Y,V,ÿ,_⟩:=gT q7;obtain⟨O,Ù⟩:=bF gp.length;rw[<-Ù] at ÿ;subst ÿ;have D:=Č (And.intro q1 (And.intro q2 (And.intro q3 (And.intro q4 (And.intro q5 (And.intro q6 q7))))));have KT:=Č Ù;have Ë:=q3.size;clear q1 q2 q3 q4 q5 q6 q7 È aiw ğ Î aix hgp Ù HLC;by_cases F:O=0
   ·subst F;have W:Hid (nE t S (ss.take (j+1))=nE t S (ss.take j)):=by
     show _=_;rw[EH.out,eq_nil_of_length_eq_zero KT.out.symm];simp
    go_wp2;go_roundw;case rel=>exact⟨j+1,Rv,xs,rU,fM,⟨D.out.1,D.out.2.1,D.out.2.2.1,D.out.2.2.2.1,by rw[W.out];exact D.out.2.2.2.2.1,by rw[W.out];exact D.out.2.2.2.2.2.1,by rw[W.out];exact o.out.nil⟩⟩
    case measure=>simp[intOf]<;>omega
   ·have hp':decide ((0:Int)<O)=true:=decide_eq_true fM;have W:Hid (nE t S (ss.take (j+1))=nE t S (ss.take j) ++ [(ss[j],gp)]):=by
     show _=_;rw[EH.out,if_neg];intro e;have:=KT.out;rw[isEmpty_iff.1 e] at this;exact F this
    obtain⟨rn,K⟩:=bF ((nE t S (ss.take j)).length);have ŧ:rn<=1000:=by
     rw[K,nE];refine le_trans (length_filter_le ..) ?_;rw[length_map,length_take];omega
    have yD:=Č K;have Ay:Hid (R.ownsRow w.heap.size 104 2 u6 rn xs):=by rw[K];exact D.out.2.2.2.2.1
    have kT:Hid ((R.alloc (.cells #[.string ⟨k.toArray⟩,.slice Y O V] 104)).ownsRow w.heap.size 104 2 u6 rn xs):=Ay.out.alloc _;have gY:Hid (∀i z,([.string ⟨k.toArray⟩,.slice Y O V]:List Value)[i]? = some z->(R.alloc (.cells #[.string ⟨k.toArray⟩,.slice Y O V] 104)).cell? ((⟨R.heap.size,0,none⟩:Addr).add i)=some z):=World.news_of_block (heap_alloc_new R _);have ko:Hid (∀z∈([.string ⟨k.toArray⟩,.slice Y O V]:List Value),z.oneCell'=true):=by
     intro z F;simp at F;rcases F with rfl|rfl<;>rfl
    clear K;go_wp2_with (at_builtin;refine wpList_append_lies _ rfl _ _ 99 rfl w.heap.size 104 iR (.agg #[.string ⟨#[]⟩,.slice none 0 0]) 2 40 underlying99 qA.out hI0 hI1 hI2 rfl lJ _ _ _ rfl kT.out ⟨R.heap.size,0,none⟩ 1 1 [.string ⟨k.toArray⟩,.slice Y O V] rfl rfl gY.out ko.out fM (by unfold maxLen;omega) fM oI _ rfl ?_);intro g7 dQ w7 bR eU _ _;have Ĭ:∀v n ys e sz,R.ownsRow w.heap.size e sz v n ys->e≠104->w7.ownsRow w.heap.size e sz v n ys:=λv n ys e sz hv Ϙ=>rD (hv.alloc _) kT.out eU Ϙ
    have hha:dL (R.alloc (.cells #[.string ⟨k.toArray⟩,.slice Y O V] 104)) Q H (pU t (ss.take (j+1)) S) G Rv:=D.out.1.below ((Below.refl _ _).alloc (le_refl _) _);have aL:Hid (Gr w w7 Q H S G I t (.slice (some ⟨g,0,none⟩) nn cn) (.slice (some ⟨g7,0,none⟩) (rn+1) dQ) ss (j+1) Rv (xs ++ [.string ⟨k.toArray⟩,.slice Y O V])):=by
     refine⟨hha.grown kT.out eU,D.out.2.1,?_,Ĭ _ _ _ _ _ D.out.2.2.2.1 lJ,?_,?_,?_⟩
     ·refine (D.out.2.2.1.alloc _).trans (Kept.grown (S:=u6.ownBlock.toList) eU (λq hq=>by rw[hq];simp)) (λx hx=>.inr ?_);simp at hx;exact (aH Ay.out hx).1
     ·rw[W.out,length_append,<-yD.out];exact bR
     ·rw[W.out];have hq:=(D.out.2.2.2.2.2.1).map (w':=w7) λv n ys hv=>Ĭ v n ys 93 2 hv lJ
      have hr:=Ĭ _ _ _ _ _ D.out.2.2.2.2.2.2 lJ;rw[HK.out];exact eO.snoc (row:=(ss[j],gp)) hr hq
     ·intro e;rw[W.out] at e;simp at e
    go_wp2;go_roundw;case rel=>exact⟨j+1,Rv,_,rU,fM,aL.out⟩
    case measure=>simp[intOf]<;>omega
  ·obtain rfl:j=nn:=fM;have jB:ss.take j=ss:=by rw[iI.out];exact take_length
   have mU:Hid (pU t (ss.take j) S=sU t S):=by rw[jB,y9.out];exact abX t S
   have U:Hid (nE t S (ss.take j)=uo t S):=by rw[jB,y9.out];exact YW t HW.out.sorted
   have e0:=tN.out wr o.out.kept;have ϟ:=o.out.row;rw[U.out] at ϟ;have uI:=Č ϟ;by_cases F:uo t S = []
   ·have hu:=o.out.nil (by rw[U.out];exact F);subst hu;have HZ:=Č F;go_wp2_with fail;go_quiet (fail);go_wp2;go_ret2;refine⟨Jf,by have:=o.out.head;rw[mU.out] at this;exact this.below (below_draws (Below.refl _ _) _),by have:=o.out.sub;rw[mU.out] at this;exact this,⟨o.out.kept.os,o.out.kept.tape,o.out.kept.output,o.out.kept.size,o.out.kept.block⟩,.inl ⟨HZ.out,by rfl⟩⟩
   ·obtain⟨ar,nr,cr,hur,hnr⟩:∃ar nr cr,u6 = .slice ar nr cr/\nr≠0:=by
     have Ϙ:(uo t S).length≠0:=λe=>F (eq_nil_of_length_eq_zero e)
     rcases ϟ.2 with⟨_,h2⟩|⟨g,cap,cur,A,_⟩
     ·exact absurd h2 Ϙ
     ·exact⟨_,_,_,A,Ϙ⟩
    subst hur;have HZ:=Č F;go_wp2;go_ret2;refine⟨Jf,by have:=o.out.head;rw[mU.out] at this;exact this,by have:=o.out.sub;rw[mU.out] at this;exact this,o.out.kept,.inr ⟨HZ.out,_,xs,by rfl,uI.out,by have:=o.out.pts;rw[U.out] at this;exact this⟩⟩
