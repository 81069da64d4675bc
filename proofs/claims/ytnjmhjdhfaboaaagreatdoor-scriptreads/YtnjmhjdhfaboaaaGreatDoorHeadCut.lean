import Derived.Test.YtnjmhjdhfaboaaaGreatDoorHeadSeriesGroup
import Derived.Test.YtnjmhjdhfaboaaaGreatDoorRowsAtGroup
import Derived.Deep.CutBlock
set_option maxRecDepth 1000000
set_option maxHeartbeats 2000000
open Nat (le_refl le_trans zero_add zero_le)
open List
open Go.Proofs.Tryz
namespace Go.Proofs.YtnjmhjdhfaboaaaGreatDoor
open Go.RowKit Go.Maps aV aD aR
theorem ĉ{p:Prop}(h:p):Go.RowKit.Hid p:=h
def Xf(w w':World)(lb:Nat)(last t:Int)(pts:List (Int×Nat))(e:Ending):Prop:=
 ∃v1 v2,e = .returned v1/\Kept [lb] w w'/\w'.heap[lb]? = some (.cells #[v2,.int .i64 last] 238 (0,0))/\w'.ownsRow w.heap.size 93 2 v1 (kL t pts).length (aF (kL t pts))/\w'.ownsRow w.heap.size 93 2 v2 (lN t pts).length (aF (lN t pts))/\(v1.ownBlock=none\/v1.ownBlock≠v2.ownBlock)/\(lN t pts = []->v2 = .slice none 0 0)
def aep:Nat->Code->Code
 | 0,c=>c
 | n+1,.seq _ b=>aep n b
 | _+1,c=>c
noncomputable def akC:Code:=aep 3 (Tryz.f101.body.getD .skip)
theorem ZH{w:World}{a:Option Addr}{l:List (Int×Nat)}(h:l5 w a l)(k:Nat):l5 w a (l.take k):=by
 rcases h with h|⟨b,o,h,A⟩
 ·exact .inl (by rw[h];simp)
 ·refine .inr ⟨b,o,h,λj z=>?_⟩;have q:j<l.length:=by simp at z;omega
  have:=A j q;rw[getElem_take];exact this
theorem ZI{w:World}{b o:Nat}{l:List (Int×Nat)}(h:l5 w (some ⟨b,o,none⟩) l)(k:Nat):l5 w (some ⟨b,o+k*2,none⟩) (l.drop k):=by
 rcases h with h|⟨b',D,h,A⟩
 ·exact .inl (by rw[h];simp)
 ·injection h with h;injection h with h1 h2;subst h1 h2;refine .inr ⟨b,o+k*2,rfl,λj z=>?_⟩;have q:k+j<l.length:=by simp at z;omega
  have:=A (k+j) q;rw[getElem_drop];rw[show o+(k+j)*2=o+k*2+j*2 by omega] at this;exact this
theorem Lc(w:World):Hf w w (.slice none 0 0) []:=⟨⟨rfl,.inl ⟨rfl,rfl⟩⟩,Below.refl _ _⟩
theorem kX{wr:World}{z:Array Oper}{q:List Oper}{o:Oper}{a:Act}{Q:Exit->Act->World->Prop}(J:o.guard=none)(s x:Operand)
  (I:o.op = .call { callee:=.builtin .append,args:=#[s,x],argTypes:=#[102,102] })
  (H:a.eval s = .slice none 0 0) (y:Option Addr) (n A:Nat) (l:List (Int×Nat)) (G:l.length=n) (D:a.eval x = .slice y n A) (U:l5 wr y l) (R:l.length<=100000)
  (h:∀v' w1,Hf wr w1 v' l->(l = []->v' = .slice none 0 0)->wpList prog z Q q (a.put o.dst v') w1):wpList prog z Q (o::q) a wr:=by
 by_cases F:l = []
 ·subst F;have:=G.symm;subst this;obtain⟨O,K,W,Z,Y⟩:=info_parts Tryz.infoPt;refine qY J s x 102 I 0 93 O 2 underlying102 K (.slice none 0 0) 0 [] H ⟨rfl,.inl ⟨rfl,rfl⟩⟩ y A D ?_;exact h _ wr (Lc _) (λ_=>rfl)
 ·refine Hw J s x I _ [] H (Lc _) y n A l G D U (by simpa using R) (λv' w1 V=>?_);exact h v' w1 (by simpa using V) (λe=>absurd e F)
theorem Em{w w1 K:World}{lb:Nat}{v v1 F:Value}{last t:Int}{o:List (Int×Nat)}{k:Nat}(R:w.heap[lb]? = some (.cells #[v,.int .i64 last] 238 (0,0)))(A:Hf w w1 v1 (o.take k))(z:Hf w1 K F (o.drop k))(ŧ:o.drop k = []->F = .slice none 0 0)(hg:kL t o=o.take k)(Q:lN t o=o.drop k):
  Xf w (K.setCell ⟨lb,0,none⟩ F) lb last t o (.returned v1):=by
 have Ë:=aC R;have O:=A.aI.trans (z.aI.mono A.aI.size);have G:=A.own;have U:=z.own;refine⟨v1,F,rfl,(Kept.of_below O).setCell (.inl vI) _,(dw ((O.block lb Ë).trans R) 0 _).trans vI,?_,?_,?_,by rw[Q];exact ŧ⟩
 ·rw[hg];refine bC (bC G λg q=>z.aI.block g (aH G q).2.1) λg q=>Below.heap_setCell _ _ _ _ (λe=>?_)
  have:=(aH G q).1;simp at e;omega
 ·rw[Q];obtain⟨Y,H⟩:=U;have W:=A.aI.size;refine bC ⟨Y,?_⟩ λg q=>Below.heap_setCell _ _ _ _ (λe=>?_)
  ·rcases H with H|⟨g,J,I,Z,q,D⟩
   ·exact .inl H
   ·exact .inr ⟨g,J,I,Z,le_trans W q,D⟩
  ·have:=(aH z.own q).1;simp at e;omega
 ·cases V:v1.ownBlock with
  | none=>exact .inl rfl
  | some g=>
   refine .inr (λe2=>?_);have a1:=(aH A.own V).2.1;have a2:=(aH z.own e2.symm).1;omega
theorem ZJ(w:World)(lb:Nat)(v:Value)(last t:Int)(o:List (Int×Nat))(ê:w.heap[lb]? = some (.cells #[v,.int .i64 last] 238 (0,0)))(Ϝ:w.ownsRow 0 93 2 v o.length (aF o))(ŧ:o = []->v = .slice none 0 0)(hn:o.length<=1000)(k:Nat)(hk:k<=o.length)(hg:kL t o=o.take k)(hl:lN t o=o.drop k)(x2 x3 x4 x6 x7 x8 x9 x10 x11 x12 x13 x14 x15 x16 x17 x18 x19 x20 x21 x22 x23 x24 x25 x26 x27 x28 x29 x30 x31 x32 x33 x34 x35 x36 x37 x38 x39 x40 x41 x42 x43 x44 x45:Value):
  Code.wp prog akC (bodyPost prog Tryz.f101 λe w'=>Xf w w' lb last t o e) ⟨#[.pointer (some ⟨lb,0,none⟩),.int .i64 t,x2,x3,x4,.int .i64 (k:Int),x6,x7,x8,x9,x10,x11,x12,x13,x14,x15,x16,x17,x18,x19,x20,x21,x22,x23,x24,x25,x26,x27,x28,x29,x30,x31,x32,x33,x34,x35,x36,x37,x38,x39,x40,x41,x42,x43,x44,x45],[]⟩ w:=by
 conv=>arg 2;whnf
 have Q:=ĉ ê;have R:=ĉ (And.intro hg hl);have c0:w.cell? ⟨lb,0,none⟩=some v:=by simp[World.cell?,ê]
 have Y:=aC ê;by_cases hp:o = []
 ·have hv:=ŧ hp;subst hp hv;have ä:k=0:=by simpa using hk
  subst ä;go_wp2_with (at_builtin;refine kX rfl _ _ rfl rfl none 0 0 (([]:List (Int×Nat)).take 0) rfl rfl (.inl rfl) vI ?_);intro v1 w1 O ā;have acE:=ā;subst acE;have D:=ĉ O;have c1:=(O.aI.cell (p:=⟨lb,0,none⟩) Y).trans c0;go_wp2_with (at_builtin;refine kX rfl _ _ rfl rfl none 0 0 (([]:List (Int×Nat)).drop 0) rfl rfl (.inl rfl) vI ?_);intro U J z ě;have I:=((D.out.aI.trans (z.aI.mono D.out.aI.size)).block lb Y).trans Q.out;have c2:J.cell? ⟨lb,0,none⟩=some (.slice none 0 0):=by simp[World.cell?,I]
  have f2:J.frozen? ⟨lb,0,none⟩=false:=by simp[World.frozen?,I]
  obtain⟨A,G,K,Ţ⟩:∃A G K,U = .slice A G K:=by obtain⟨A,V,W,_⟩:=gT z.own;exact⟨_,_,_,W⟩
  have Z:=ĉ (Em Q.out D.out z (λ_=>ě) R.out.1 R.out.2);subst Ţ;go_wp2;go_ret;exact Z.out
 ·obtain⟨a',q,hv,Ν,į,H⟩:=gT Ϝ;obtain⟨g,rfl,_,_⟩:=H hp;subst hv;obtain⟨F,Ð⟩:=bE o.length;have Ě:0<F:=by rw[Ð];exact length_pos_iff.2 hp
  have Gl:=ĉ Ð;have uY:=ĉ į;rw[<-Ð] at Ν hk hn c0 Q;have hcap0:q≠0:=fO;have aqZ:(q:Int)≠0:=fO;clear Ϝ ê hg hl į Ð hp ŧ H;by_cases Ğ:k=0
  ·subst Ğ;go_wp2_with (at_builtin;refine kX rfl _ _ rfl rfl (some ⟨g,0,none⟩) 0 q (o.take 0) vI rfl (.inl vI) vI ?_);intro v1 w1 O ā;have acE:=ā;subst acE;have D:=ĉ O;have c1:=(O.aI.cell (p:=⟨lb,0,none⟩) Y).trans c0;have acF:Hid (l5 w1 (some ⟨g,0,none⟩) (o.drop 0)):=by rw[drop_zero];exact l5.below uY.out O.aI
   go_wp2_with (at_builtin;refine kX rfl _ _ rfl rfl (some ⟨g,0,none⟩) F q (o.drop 0) (by rw[drop_zero];exact Gl.out.symm) rfl acF.out (by rw[drop_zero,<-Gl.out];omega) ?_);intro U J z ě;have I:=((D.out.aI.trans (z.aI.mono D.out.aI.size)).block lb Y).trans Q.out;have c2:J.cell? ⟨lb,0,none⟩=some (.slice (some ⟨g,0,none⟩) F q):=by simp[World.cell?,I]
   have f2:J.frozen? ⟨lb,0,none⟩=false:=by simp[World.frozen?,I]
   obtain⟨A,G,K,Ţ⟩:∃A G K,U = .slice A G K:=by obtain⟨A,V,W,_⟩:=gT z.own;exact⟨_,_,_,W⟩
   have Z:=ĉ (Em Q.out D.out z (λh=>ě (by simpa using h)) R.out.1 R.out.2);subst Ţ;go_wp2;go_ret;exact Z.out
  ·have ä:(0:Int)<=k:=fO;have ϓ:(k:Int)<=F:=fO;have hkc:(k:Int)<=q:=fO;go_wp2_with (at_builtin;refine kX rfl _ _ rfl rfl (some ⟨g,0,none⟩) k q (o.take k) (by rw[length_take];have:=Gl.out;omega) rfl (ZH uY.out k) (by rw[length_take];have:=Gl.out;omega) ?_);intro v1 w1 O _;have D:=ĉ O;have c1:=(O.aI.cell (p:=⟨lb,0,none⟩) Y).trans c0;have acF:=ĉ (ZI (l5.below uY.out O.aI) k);have QX:Hid ((o.drop k).length=F-k):=by show _=_;rw[length_drop,Gl.out]
   by_cases akD:k=q
   ·have anY:F=k:=fO;subst akD anY;have Ld:Hid (o.drop F = []):=by rw[Gl.out];exact drop_length
    go_wp2_with (at_builtin;refine kX rfl _ _ rfl rfl (some ⟨g,0,none⟩) 0 0 (o.drop F) (by rw[Ld.out];rfl) rfl (.inl Ld.out) (by rw[Ld.out];simp) ?_);intro U J z ě;have I:=((D.out.aI.trans (z.aI.mono D.out.aI.size)).block lb Y).trans Q.out;have c2:J.cell? ⟨lb,0,none⟩=some (.slice (some ⟨g,0,none⟩) F F):=by simp[World.cell?,I]
    have f2:J.frozen? ⟨lb,0,none⟩=false:=by simp[World.frozen?,I]
    obtain⟨A,G,K,Ţ⟩:∃A G K,U = .slice A G K:=by obtain⟨A,V,W,_⟩:=gT z.own;exact⟨_,_,_,W⟩
    have Z:=ĉ (Em Q.out D.out z (λh=>ě (by simpa using h)) R.out.1 R.out.2);subst Ţ;go_wp2;go_ret;exact Z.out
   ·have arJ:(k:Int)≠(q:Int):=fO;go_wp2_with (at_builtin;refine kX rfl _ _ rfl rfl (some ⟨g,k*2,none⟩) (F-k) (q-k) (o.drop k) QX.out rfl (by have:=acF.out;rw[zero_add] at this;exact this) (by rw[QX.out];omega) ?_);intro U J z ě;have I:=((D.out.aI.trans (z.aI.mono D.out.aI.size)).block lb Y).trans Q.out;have c2:J.cell? ⟨lb,0,none⟩=some (.slice (some ⟨g,0,none⟩) F q):=by simp[World.cell?,I]
    have f2:J.frozen? ⟨lb,0,none⟩=false:=by simp[World.frozen?,I]
    obtain⟨A,G,K,Ţ⟩:∃A G K,U = .slice A G K:=by obtain⟨A,V,W,_⟩:=gT z.own;exact⟨_,_,_,W⟩
    have Z:=ĉ (Em Q.out D.out z (λh=>ě (by simpa using h)) R.out.1 R.out.2);subst Ţ;go_wp2;go_ret;exact Z.out
theorem TQ(w:World)(lb:Nat)(v:Value)(last t:Int)(A:List (Int×Nat))(ê:w.heap[lb]? = some (.cells #[v,.int .i64 last] 238 (0,0)))(Ϝ:w.ownsRow 0 93 2 v A.length (aF A))(ŧ:A = []->v = .slice none 0 0)(hn:A.length<=1000)(hr:A.Pairwise λp q=>p.1<q.1):
  Calls prog 101 #[.pointer (some ⟨lb,0,none⟩),.int .i64 t] w λe w'=>Xf w w' lb last t A e:=by
 have W:=ĉ (And.intro ê (And.intro Ϝ ŧ));have HR:=ĉ hr;have c0:w.cell? ⟨lb,0,none⟩=some v:=by simp[World.cell?,ê]
 obtain⟨a',cap,hv,Ν,į,D⟩:=gT Ϝ;subst hv;have Y:=ĉ (And.intro į D);obtain⟨G,Z⟩:=bE A.length;have J:=ĉ Z;rw[<-Z] at Ν hn c0;go_enter func101,ntmps101;go_upto_block 0 with fail;go_cut [5] (λz wx=>wx=w/\∃k:Nat,z = .int .i64 (k:Int)/\k<=G/\(∀i (I:i<A.length),i<k->(A[i]).1<t)/\(∀F:k<A.length,t<=(A[k]).1));case first=>
  go_wp2_with fail;go_loopw [5] (λz wr=>wr=w/\∃k:Nat,z = .int .i64 (k:Int)/\k<=G/\(∀i (I:i<A.length),i<k->(A[i]).1<t)) (λz _=>G-(intOf z).toNat);case atStart=>exact⟨rfl,0,rfl,zero_le _,λi _ h=>absurd h fO⟩
  case round=>
   obtain⟨rfl,k,rfl,F,ϗ⟩:=hrel;have R:=ĉ ϗ;by_cases ϥ:k<G
   ·have V:k<A.length:=by rw[<-J.out];exact ϥ
    have H:A ≠ []:=λe=>by rw[e] at V;simp at V
    obtain⟨g,rfl,_,_⟩:=Y.out.2 H;have Ϥ:wr.cell? ⟨g,k*2,none⟩=some (.int .i64 (A[k]).1):=by
     rcases Y.out.1 with h|⟨b,o,h,hc⟩
     ·exact absurd h H
     ·injection h with h;injection h with O K;subst O K;have:=(hc k V).1;rwa [zero_add] at this
    have ä:(0:Int)<=k:=fO;have ϓ:(k:Int)<G:=fO;obtain⟨U,ÿ⟩:=bE ((A[k]).1);rw[<-ÿ] at Ϥ;have nP:=ĉ ÿ;by_cases Q:U<t
    ·have d0:decide (U<t)=true:=decide_eq_true Q;go_wp2;go_roundw;case rel=>exact⟨by first|rfl|trivial,k+1,by go_num,fO,λi I h=>if h':i<k then R.out i I h' else (by have e:=(show i=k by omega);subst e;rw[<-nP.out];exact Q)⟩
     case measure=>simp[intOf]<;>omega
    ·have d0:decide (U<t)=false:=decide_eq_false Q;go_wp2_with fail;go_meet;case rel=>exact⟨by first|rfl|trivial,k,by first|rfl|trivial,F,R.out,λ_=>by rw[<-nP.out];omega⟩
   ·have σ:(G:Int)<=k:=fO;go_wp2_with fail;go_meet;case rel=>exact⟨by first|rfl|trivial,k,by first|rfl|trivial,F,R.out,λh=>absurd h (by rw[<-J.out];omega)⟩
 case rest=>
  obtain⟨rfl,k,rfl,F,O,K⟩:=hcut;rw[J.out] at F;obtain⟨e1,e2⟩:=PU t A HR.out k F (λi I hl=>O i hl I) K;have Â:=J.out;apply_assumption;exact ZJ _ lb _ last t A (by have:=W.out.1;exact this) W.out.2.1 W.out.2.2 fO k F e1 e2 _ _ _ _ _ _ _ _ _ _ _ _ _ _ _ _ _ _ _ _ _ _ _ _ _ _ _ _ _ _ _ _ _ _ _ _ _ _ _ _ _ _ _
theorem dL.afH{w w':World}{hb U:Nat}{S:List Sr}{I:List UInt8->Nat}{G:List UInt8->Value}(h:dL w hb U S I G)(hS:S.Pairwise λa b=>a.key<b.key){l:Sr}(Q:l∈S){t:Int}{q:Value}(hk:Kept [I l.key] w w')(oP:w'.heap[I l.key]? = some (.cells #[q,.int .i64 l.last] 238 (0,0)))
  (Ϝ:w'.ownsRow w.heap.size 93 2 q (lN t l.pts).length (aF (lN t l.pts))) (ŧ:lN t l.pts = []->q = .slice none 0 0) :
  dL w' hb U (S.map λx=>if x.key=l.key then sQ t x else x) I (λx=>if x=l.key then q else G x)/\∀x,x∈foot U (S.map λx=>if x.key=l.key then sQ t x else x) I (λx=>if x=l.key then q else G x)->x∈foot U S I G\/w.heap.size<=x:=by
 have H:∀y,y∈(S.map λx=>if x.key=l.key then sQ t x else x)->(y∈S/\y.key≠l.key)\/y=sQ t l:=λy A=>by
  obtain⟨x,K,rfl⟩:=mem_map.1 A;by_cases e:x.key=l.key
  ·have:=uniq hS K Q e;subst this;rw[if_pos rfl];exact .inr rfl
  ·rw[if_neg e];exact .inl ⟨K,e⟩
 have ĥ:=h.line l Q;have F:∀b,b<w.heap.size->b≠I l.key->w'.heap[b]? = w.heap[b]?:=λb Z h2=>hk.block b Z (by simpa using h2)
 obtain⟨D,Z,h2,h3,h4⟩:=h.map;have ϥ:∀k,known (S.map λx=>if x.key=l.key then sQ t x else x) k=known S k:=λk=>by
  have:∀x:Sr,(if x.key=l.key then sQ t x else x).key=x.key:=λx=>by split<;>rfl
  simp only[known,any_map,Function.comp_def,this]
 have ό:∀g,q.ownBlock=some g->w.heap.size<=g:=λg O=>(aH Ϝ O).1
 refine⟨⟨?_,⟨D,?_,by rw[length_map];exact h2,λk=>by rw[ϥ];exact h3 k,λy A z=>?_⟩,λy A=>?_,λy A=>?_,λx y K A e=>?_,λx y K A e=>?_,λy A=>?_,λy A hp=>?_⟩,λx K=>?_⟩
 ·rw[F hb (aC h.head) (iU h.head ĥ nQ)];exact h.head
 ·rw[length_map];exact jm Z (F U Z.lt (λe=>h.kR ĥ e.symm))
 ·rcases H y A with⟨o,_⟩|rfl
  ·exact h4 y o z
  ·exact h4 l Q z
 ·rcases H y A with⟨o,ϕ⟩|rfl
  ·rw[if_neg ϕ,F _ (aC (h.line y o)) (λe=>ϕ (h.inj y l o Q e))];exact h.line y o
  ·show w'.heap[I l.key]? = some (.cells #[if l.key=l.key then q else _,.int .i64 l.last] 238 (0,0));rw[if_pos rfl];exact oP
 ·rcases H y A with⟨o,ϕ⟩|rfl
  ·rw[if_neg ϕ];refine bC (h.row y o) λg O=>?_
   obtain⟨_,ϗ,Y,hc⟩:=aH (h.row y o) O;exact F g ϗ (iU hc ĥ nQ)
  ·show w'.ownsRow 0 93 2 (if l.key=l.key then q else _) (lN t l.pts).length (aF (lN t l.pts));rw[if_pos rfl];obtain⟨q1,q2⟩:=Ϝ;refine⟨q1,?_⟩;rcases q2 with q2|⟨g,cap,Y,hv,_,W⟩
   ·exact .inl q2
   ·exact .inr ⟨g,cap,Y,hv,zero_le _,W⟩
 ·have V:∀z,z∈(S.map λx=>if x.key=l.key then sQ t x else x)->∃y,y∈S/\y.key=z.key:=λz R=>by
   rcases H z R with⟨hz',_⟩|rfl
   ·exact⟨z,hz',rfl⟩
   ·exact⟨l,Q,rfl⟩
  obtain⟨x',J,ex⟩:=V x K;obtain⟨y',o,ey⟩:=V y A;rw[<-ex,<-ey] at e ⊢;exact h.inj x' y' J o e
 ·have qX:∀z,z∈S->(G z.key).ownBlock=none\/(G z.key).ownBlock≠q.ownBlock:=λz R=>by
   cases e1:(G z.key).ownBlock with
   | none=>exact .inl rfl
   | some g=>
    refine .inr (λe2=>?_);have a1:=(aH (h.row z R) e1).2.1;have a2:=ό g e2.symm;omega
  rcases H x K with⟨J,ϕ⟩|rfl
  ·rcases H y A with⟨o,hne'⟩|rfl
   ·rw[if_neg ϕ,if_neg hne'];exact h.apart x y J o e
   ·show (if x.key=l.key then q else G x.key).ownBlock=none\/(if x.key=l.key then q else G x.key).ownBlock≠(if l.key=l.key then q else _).ownBlock;rw[if_neg ϕ,if_pos rfl];exact qX x J
  ·rcases H y A with⟨o,hne'⟩|rfl
   ·show (if l.key=l.key then q else _).ownBlock=none\/(if l.key=l.key then q else _).ownBlock≠(if y.key=l.key then q else G y.key).ownBlock;rw[if_pos rfl,if_neg hne'];cases e1:q.ownBlock with
    | none=>exact .inl rfl
    | some g=>
     refine .inr (λe2=>?_);have a1:=(aH (h.row y o) e2.symm).2.1;have a2:=ό g e1;omega
   ·exact absurd rfl e
 ·rcases H y A with⟨o,_⟩|rfl
  ·exact h.len y o
  ·exact h.len l Q
 ·rcases H y A with⟨o,ϕ⟩|rfl
  ·rw[if_neg ϕ];exact h.nil y o hp
  ·show (if l.key=l.key then q else _)=_;rw[if_pos rfl];exact ŧ hp
 ·rcases xA K with rfl|⟨z,R,rfl⟩|⟨z,R,O⟩
  ·exact .inl (Aj ..)
  ·rcases H z R with⟨hz',_⟩|rfl
   ·exact .inl (ru hz')
   ·exact .inl (show I l.key∈foot U S I G from ru Q)
  ·rcases H z R with⟨hz',ϕ⟩|rfl
   ·rw[if_neg ϕ] at O;exact .inl (xw hz' O)
   ·have:(if l.key=l.key then q else G l.key).ownBlock=some x:=O;rw[if_pos rfl] at this;exact .inr (ό x this)
theorem Gm{w w':World}{o:Nat}{e:TypeId}{q:Nat}{v:Value}{n:Nat}{xs:List Value}(h:w.ownsRow o e q v n xs){lb:Nat}(I:Kept [lb] w w'){cs:Array Value}{t:TypeId}{f:Nat×Nat}(A:w.heap[lb]? = some (.cells cs t f))(F:e≠t):w'.ownsRow o e q v n xs:=
 bC h λg H=>by
  obtain⟨_,D,G,z⟩:=aH h H;exact I.block g D (by simpa using iU z A F)
theorem dL.grown{w w':World}{G H:Nat}{S:List Sr}{F:List UInt8->Nat}{J:List UInt8->Value}(h:dL w G H S F J){q:Nat}{r:Value}{m:Nat}{Q:List Value}(K:w.ownsRow q 104 2 r m Q)(V:w.grownBy w' r.ownBlock):dL w' G H S F J:=by
 refine h.same λb o=>V.block b (h.lt o) (λU=>?_)
 obtain⟨_,_,O,z⟩:=aH K U.symm;rcases o with rfl|o
 ·exact iU h.head z nQ rfl
 ·rcases xA o with rfl|⟨l,A,rfl⟩|⟨l,A,R⟩
  ·exact h.kR z rfl
  ·exact iU (h.line l A) z nQ rfl
  ·obtain⟨_,_,I,D⟩:=aH (h.row l A) R;exact iU D z nQ rfl
structure Gn(w wr:World)(hb mb:Nat)(S:List Sr)(bl:List UInt8->Nat)(sv:List UInt8->Value)(t:Int)(vn r:Value)(ss:List (List UInt8))(j:Nat)(I8:List UInt8->Value)(xs:List Value):Prop where
 head:dL wr hb mb (pJ t (ss.take j) S) bl I8
 sub:∀x,x∈foot mb (pJ t (ss.take j) S) bl I8->x∈foot mb S bl sv\/w.heap.size<=x
 kept:Kept (foot mb S bl sv) w wr
 names:wr.ownsRow w.heap.size 9 1 vn ss.length (ss.map encStr)
 row:wr.ownsRow w.heap.size 104 2 r (mY t S (ss.take j)).length xs
 pts:eH wr w.heap.size xs (mY t S (ss.take j))
 nil:mY t S (ss.take j) = []->r = .slice none 0 0
def ah1(aN:Addr)(w w':World)(hb mb:Nat)(S:List Sr)(bl:List UInt8->Nat)(sv:List UInt8->Value)(t:Int)(e:Ending):Prop:=
 ∃nY,dL w' hb mb (sO t S) bl nY/\(∀x,x∈foot mb (sO t S) bl nY->x∈foot mb S bl sv\/w.heap.size<=x)/\Kept (foot mb S bl sv) w w' /\
  ((uh t S = []/\e = .returned (.tuple #[.slice none 0 0,.iface 397 (.pointer (some aN))])) \/
   (uh t S ≠ []/\∃r xs,e = .returned (.tuple #[r,.nilIface])/\w'.ownsRow w.heap.size 104 2 r (uh t S).length xs/\eH w' w.heap.size xs (uh t S)))
theorem take_succ{o:Type}{l:List o}{j:Nat}(h:j<l.length):l.take (j+1)=l.take j ++ [l[j]]:=by rw[take_succ_eq_append_getElem h]
theorem Om{l:List (List UInt8)}(q:l.Nodup){j:Nat}(h:j<l.length):l[j]∉l.take j:=λA=>by
 obtain⟨i,z,e⟩:=mem_iff_getElem.1 A;rw[getElem_take] at e;have o:i<j:=by simp at z;omega
 exact absurd e (pairwise_iff_getElem.1 q i j fO h o)
theorem Rj(k:List UInt8):(⟨k.toArray⟩:ByteArray).data.toList=k:=vI
theorem Gn.step{w wr o:World}{hb z:Nat}{S:List Sr}{q:List UInt8->Nat}{Y:List UInt8->Value}{t:Int}{vn r:Value}{ss:List (List UInt8)}{j:Nat}{I8:List UInt8->Value}{xs:List Value}(h:Gn w wr hb z S q Y t vn r ss j I8 xs)(W:S.Pairwise λa b=>a.key<b.key)(ż:ss=bZ S)(hj:j<ss.length)
  {l:Sr} (Q:l∈S) (K:l.key=ss[j]) {v1 J:Value} (A:Kept [q l.key] wr o) (oP:o.heap[q l.key]? = some (.cells #[J,.int .i64 l.last] 238 (0,0))) (ϯ:o.ownsRow wr.heap.size 93 2 v1 (kL t l.pts).length (aF (kL t l.pts))) (å:o.ownsRow wr.heap.size 93 2 J (lN t l.pts).length (aF (lN t l.pts))) (ŧ:lN t l.pts = []->J = .slice none 0 0) :
  ∃Z,dL o hb z (pJ t (ss.take (j+1)) S) q Z/\(∀x,x∈foot z (pJ t (ss.take (j+1)) S) q Z->x∈foot z S q Y\/w.heap.size<=x)/\Kept (foot z S q Y) w o/\o.ownsRow w.heap.size 9 1 vn ss.length (ss.map encStr)/\o.ownsRow w.heap.size 104 2 r (mY t S (ss.take j)).length xs/\eH o w.heap.size xs (mY t S (ss.take j)) /\
   o.ownsRow w.heap.size 93 2 v1 (kL t (fG S (ss[j]))).length (aF (kL t (fG S (ss[j])))):=by
 have F:=Om (by rw[ż];exact yL W) hj;have Lf:l∈pJ t (ss.take j) S:=PW Q (by rw[K];exact F);have H:=h.head.line l Lf;obtain⟨q1,q2⟩:=h.head.afH (Te t _ W) Lf A oP å ŧ;have he:(pJ t (ss.take j) S).map (λx=>if x.key=l.key then sQ t x else x)=pJ t (ss.take (j+1)) S:=by rw[take_succ hj,Yq _ _ _ F,K]
 rw[he] at q1 q2;have iM:=h.kept.size;refine⟨_,q1,λx G=>?_,h.kept.trans A (λx G=>?_),Gm h.names A H nQ,Gm h.row A H nQ,h.pts.map λv n ys O=>Gm O A H nQ,?_⟩
 ·rcases q2 x G with I|I
  ·exact h.sub x I
  ·exact .inr (le_trans iM I)
 ·simp at G;subst G;exact .inl (ru Q)
 ·rw[Du W Q K];obtain⟨a1,U⟩:=ϯ;refine⟨a1,?_⟩;rcases U with U|⟨g,V,R,O,hg,D⟩
  ·exact .inl U
  ·exact .inr ⟨g,V,R,O,le_trans iM hg,D⟩
theorem acG(w:World)(aN:Addr)(hE:w.cell? ⟨4,0,none⟩=some (.iface 397 (.pointer (some aN))))(R H:Nat)(S:List Sr)(G:List UInt8->Nat)(I:List UInt8->Value)(h:dL w R H S G I)(qX:4∉foot H S G I)(hW:Well S)(hn:S.length<=1000)(hc:∀l,l∈S->l.pts.length<=1000)(t:Int):
  Calls prog 67 #[.pointer (some ⟨R,0,none⟩),.int .i64 t] w λe w'=>ah1 aN w w' R H S G I t e:=by
 have HH:=ĉ h;have hEl:=World.block_lt_of_cell? w ⟨4,0,none⟩ hE;have tJ:Hid (∀z,Kept (foot H S G I) w z->z.cell? ⟨4,0,none⟩=some (.iface 397 (.pointer (some aN)))):=λz F=>(World.cell?_of_block (F.block _ hEl qX)).trans hE
 have qJ:=ĉ (I7 w R H S G I h hW.sorted hn);have HW:=ĉ hW;have HC:=ĉ hc;obtain⟨ss,ż⟩:=bE (bZ S);have y8:=ĉ ż;have Ĕ:ss.length<=1000:=by rw[ż,bZ,length_map];exact le_trans (length_filter_le ..) hn
 rw[<-ż] at qJ;go_enter func67,ntmps67;go_wp2_with fail;refine Calls.mono qJ.out ?_;rintro e w1 ⟨vn,rfl,ώ,Ã⟩;obtain⟨Z,cn,hvn⟩:∃Z cn,vn = .slice Z ss.length cn:=by
  rcases Ã.2 with⟨A,h2⟩|⟨g,cap,cur,A,_⟩
  ·exact⟨none,0,by rw[h2];exact A⟩
  ·exact⟨_,_,A⟩
 subst hvn;have H0:Hid (Gn w w1 R H S G I t (.slice Z ss.length cn) (.slice none 0 0) ss 0 I []):=by
  refine⟨by rw[take_zero,PV];exact HH.out.below ώ,λx hx=>.inl (by rw[take_zero,PV] at hx;exact hx),Kept.of_below ώ,Ã,?_,?_,λ_=>rfl⟩
  ·rw[take_zero];exact⟨rfl,.inl ⟨rfl,rfl⟩⟩
  ·rw[take_zero];exact trivial
 obtain⟨iR,hI,hI0,hI1,hI2⟩:=info_parts Tryz.infoARow;have qK:=ĉ hI;obtain⟨W,ϛ⟩:=bE ss.length;have iH:=ĉ ϛ;rw[<-ϛ] at H0 Ĕ ⊢;clear ϛ;go_wp2_with fail;go_loopw [6,13] (λr i wr=>∃(j:Nat) (I8:List UInt8->Value) (xs:List Value),i = .int .i64 (j:Int)/\j<=W/\Gn w wr R H S G I t (.slice Z W cn) r ss j I8 xs) (λ_ i _=>W-(intOf i).toNat);case atStart=>exact⟨0,I,[],rfl,zero_le _,H0.out⟩
 case round=>
  obtain⟨j,I8,xs,rfl,hj,Ŷ⟩:=hrel;have o:=ĉ Ŷ;by_cases hjn:j<W
  ·have O:j<ss.length:=by rw[<-iH.out];exact hjn
   obtain⟨k,hk⟩:=bE (ss[j]);have φ:k∈bZ S:=by rw[<-y8.out,hk];exact getElem_mem ..
   obtain⟨l,hl,Ù,_⟩:=ig.1 φ;have hnt:=Om (by rw[y8.out];exact yL HW.out.sorted) O;have Lf:l∈pJ t (ss.take j) S:=PW hl (by rw[Ù,hk];exact hnt);have õ:k.length<=1000:=by rw[<-Ù];exact o.out.head.len l Lf
   have hcn:Z=none\/∃g,Z=some ⟨g,0,none⟩/\wr.cell? ⟨g,j,none⟩=some (.string ⟨k.toArray⟩):=by
    rcases o.out.names.2 with⟨A,_⟩|⟨g,cap,cur,A,_,hh,_,_,_,h4⟩
    ·injection A with A;exact .inl A
    ·injection A with A;refine .inr ⟨g,A,?_⟩;have:cur[j]? = (ss.map encStr)[j]?:=by rw[<-h4,List.getElem?_take_of_lt fO];simp
     rw[List.getElem?_map,List.getElem?_eq_getElem O,<-hk] at this;simp[World.cell?,hh,this,encStr]
   have Ϭ:∃g,Z=some ⟨g,0,none⟩/\wr.cell? ⟨g,j,none⟩=some (.string ⟨k.toArray⟩):=by
    rcases hcn with A|A
    ·rcases o.out.names.2 with⟨_,h2⟩|⟨g,_,_,h2,_⟩
     ·omega
     ·injection h2 with h2;rw[A] at h2;cases h2
    ·exact A
   obtain⟨g,rfl,cn0⟩:=Ϭ;have pV:(Instr.lookup 198 (.map (some H)) (.string ⟨k.toArray⟩) false).run prog wr = .ok (.pointer (some ⟨G l.key,0,none⟩)) wr:=by
    rcases o.out.head.look ⟨k.toArray⟩ (by show k.toArray.size<=1000;simpa using õ) with⟨A,_⟩|⟨l',_,h2,h3⟩
    ·rw[Rj] at A;rw[dF.2 ⟨l,Lf,Ù⟩] at A;cases A
    ·rw[Rj,<-Ù] at h2;rw[h2] at h3;exact h3
   have c0:=o.out.head.cell;have HLC:=ĉ (TQ wr (G l.key) (I8 l.key) l.last t l.pts (o.out.head.line l Lf) (o.out.head.row l Lf) (o.out.head.nil l Lf) (HC.out l hl) (HW.out.rise l hl));have ė:(0:Int)<=j:=fO;have hj1:(j:Int)<W:=fO;have Ri:=ĉ (Ù.trans hk);have HLM:=ĉ hl;have HK:=ĉ hk;clear hcn φ hnt Lf õ Ù hk hl;go_wp2_with fail;refine Calls.mono HLC.out ?_;rintro e Q ⟨v1,v2,rfl,Ç,ah2,Ę,Î,_,ah3⟩;obtain⟨Rk,q1,q2,q3,q4,q5,q6,q7⟩:=o.out.step HW.out.sorted y8.out O HLM.out Ri.out Ç ah2 Ę Î ah3;obtain⟨gp,hgp⟩:=bE (kL t (fG S (ss[j])));rw[<-hgp] at q7;have EF:Hid (mY t S (ss.take (j+1))=mY t S (ss.take j)++if gp.isEmpty=true then [] else [(ss[j],gp)]):=by show _=_;rw[take_succ O,VJ,hgp]
   obtain⟨V,U,ā,_⟩:=gT q7;obtain⟨J,Ú⟩:=bE gp.length;rw[<-Ú] at ā;subst ā;have D:=ĉ (And.intro q1 (And.intro q2 (And.intro q3 (And.intro q4 (And.intro q5 (And.intro q6 q7))))));have KM:=ĉ Ú;have Æ:=q3.size;clear q1 q2 q3 q4 q5 q6 q7 Ç ah2 Ę Î ah3 hgp Ú HLC;by_cases F:J=0
   ·subst F;have Rm:Hid (mY t S (ss.take (j+1))=mY t S (ss.take j)):=by
     show _=_;rw[EF.out,eq_nil_of_length_eq_zero KM.out.symm];simp
    go_wp2;go_roundw;case rel=>exact⟨j+1,Rk,xs,by go_num,fO,⟨D.out.1,D.out.2.1,D.out.2.2.1,D.out.2.2.2.1,by rw[Rm.out];exact D.out.2.2.2.2.1,by rw[Rm.out];exact D.out.2.2.2.2.2.1,by rw[Rm.out];exact o.out.nil⟩⟩
    case measure=>simp[intOf]<;>omega
   ·have hp':decide ((0:Int)<J)=true:=decide_eq_true fO;have Rm:Hid (mY t S (ss.take (j+1))=mY t S (ss.take j) ++ [(ss[j],gp)]):=by
     show _=_;rw[EF.out,if_neg];intro e;have:=KM.out;rw[isEmpty_iff.1 e] at this;exact F this
    obtain⟨rn,K⟩:=bE ((mY t S (ss.take j)).length);have š:rn<=1000:=by
     rw[K,mY];refine le_trans (length_filter_le ..) ?_;rw[length_map,length_take];omega
    have yY:=ĉ K;have Aw:Hid (Q.ownsRow w.heap.size 104 2 u6 rn xs):=by rw[K];exact D.out.2.2.2.2.1
    have kQ:Hid ((Q.alloc (.cells #[.string ⟨k.toArray⟩,.slice V J U] 104)).ownsRow w.heap.size 104 2 u6 rn xs):=Aw.out.alloc _;have iV:Hid (∀i z,([.string ⟨k.toArray⟩,.slice V J U]:List Value)[i]? = some z->(Q.alloc (.cells #[.string ⟨k.toArray⟩,.slice V J U] 104)).cell? ((⟨Q.heap.size,0,none⟩:Addr).add i)=some z):=World.news_of_block (heap_alloc_new Q _);have kH:Hid (∀z∈([.string ⟨k.toArray⟩,.slice V J U]:List Value),z.oneCell'=true):=by
     intro z F;simp at F;rcases F with rfl|rfl<;>rfl
    clear K;go_wp2_with (at_builtin;refine wpList_append_lies _ rfl _ _ 99 rfl w.heap.size 104 iR (.agg #[.string ⟨#[]⟩,.slice none 0 0]) 2 40 underlying99 qK.out hI0 hI1 hI2 rfl nQ _ _ _ rfl kQ.out ⟨Q.heap.size,0,none⟩ 1 1 [.string ⟨k.toArray⟩,.slice V J U] rfl rfl iV.out kH.out fO (by unfold maxLen;omega) fO rD _ rfl ?_);intro g7 dR w7 bR eP _ _;have Ħ:∀v n ys e sz,Q.ownsRow w.heap.size e sz v n ys->e≠104->w7.ownsRow w.heap.size e sz v n ys:=λv n ys e sz hv ϕ=>rC (hv.alloc _) kQ.out eP ϕ
    have hha:dL (Q.alloc (.cells #[.string ⟨k.toArray⟩,.slice V J U] 104)) R H (pJ t (ss.take (j+1)) S) G Rk:=D.out.1.below ((Below.refl _ _).alloc (le_refl _) _);have aQ:Hid (Gn w w7 R H S G I t (.slice (some ⟨g,0,none⟩) W cn) (.slice (some ⟨g7,0,none⟩) (rn+1) dR) ss (j+1) Rk (xs ++ [.string ⟨k.toArray⟩,.slice V J U])):=by
     refine⟨hha.grown kQ.out eP,D.out.2.1,?_,Ħ _ _ _ _ _ D.out.2.2.2.1 nQ,?_,?_,?_⟩
     ·refine (D.out.2.2.1.alloc _).trans (Kept.grown (S:=u6.ownBlock.toList) eP (λq hq=>by rw[hq];simp)) (λx hx=>.inr ?_);simp at hx;exact (aH Aw.out hx).1
     ·rw[Rm.out,length_append,<-yY.out];exact bR
     ·rw[Rm.out];have hq:=(D.out.2.2.2.2.2.1).map (w':=w7) λv n ys hv=>Ħ v n ys 93 2 hv nQ
      have hr:=Ħ _ _ _ _ _ D.out.2.2.2.2.2.2 nQ;rw[HK.out];exact eH.snoc (row:=(ss[j],gp)) hr hq
     ·intro e;rw[Rm.out] at e;simp at e
    go_wp2;go_roundw;case rel=>exact⟨j+1,Rk,_,by go_num,fO,aQ.out⟩
    case measure=>simp[intOf]<;>omega
  ·obtain rfl:j=W:=fO;have jr:ss.take j=ss:=by rw[iH.out];exact take_length
   have mH:Hid (pJ t (ss.take j) S=sO t S):=by rw[jr,y8.out];exact abw t S
   have Y:Hid (mY t S (ss.take j)=uh t S):=by rw[jr,y8.out];exact Yr t HW.out.sorted
   have e0:=tJ.out wr o.out.kept;have Ϝ:=o.out.row;rw[Y.out] at Ϝ;have uD:=ĉ Ϝ;by_cases F:uh t S = []
   ·have hu:=o.out.nil (by rw[Y.out];exact F);subst hu;have HZ:=ĉ F;go_wp2_with fail;go_quiet (fail);go_wp2;go_ret2;refine⟨I8,by have:=o.out.head;rw[mH.out] at this;exact this.below (below_draws (Below.refl _ _) _),by have:=o.out.sub;rw[mH.out] at this;exact this,⟨o.out.kept.os,o.out.kept.tape,o.out.kept.output,o.out.kept.size,o.out.kept.block⟩,.inl ⟨HZ.out,by rfl⟩⟩
   ·obtain⟨ar,nr,cr,hur,hnr⟩:∃ar nr cr,u6 = .slice ar nr cr/\nr≠0:=by
     have ϕ:(uh t S).length≠0:=λe=>F (eq_nil_of_length_eq_zero e)
     rcases Ϝ.2 with⟨_,h2⟩|⟨g,cap,cur,A,_⟩
     ·exact absurd h2 ϕ
     ·exact⟨_,_,_,A,ϕ⟩
    subst hur;have HZ:=ĉ F;go_wp2;go_ret2;refine⟨I8,by have:=o.out.head;rw[mH.out] at this;exact this,by have:=o.out.sub;rw[mH.out] at this;exact this,o.out.kept,.inr ⟨HZ.out,_,xs,by rfl,uD.out,by have:=o.out.pts;rw[Y.out] at this;exact this⟩⟩
end Go.Proofs.YtnjmhjdhfaboaaaGreatDoor
