import Derived.Conc.Crowd
import Derived.Test.YtnonoiafongllaaGreatDoorK
import Derived.Conc.CrowdTrace
open Nat (le_refl lt_of_lt_of_le)
open List
namespace Px
open Go Go.Conc
def blk:Loc->Option Nat
 | .cell a=>some a.block
 | .obj r=>some r
 | _=>none
def tN(Sw:Nat->Prop):Loc->Prop:=λl=>∃b,blk l=some b/\Sw b
theorem tN.blk{Sw:Nat->Prop}{l:Loc}(h:tN Sw l):∃b,blk l=some b/\Sw b:=h
def OkG(Sw:Nat->Prop)(g:Nat)(Own Ro:Nat->Prop)(op:MemOp):Prop:=
 op.g=g/\∀x,op.act.touch? = some x->(tN Sw x.loc/\x.kind ≠ .plain/\(x.kind = .said->g=0))\/∃b,Px.blk x.loc=some b/\(Own b\/(Ro b/\x.write=false))
structure Ap(Sw:Nat->Prop)(n:Nat)(Own:Nat->Nat->Prop)(Ro:Nat->Prop):Prop where
 own:∀g g' b,Own g b->Own g' b->g=g'
 ro:∀g b,Own g b->¬ Ro b
 sw:∀g b,Own g b->¬ Sw b
 qM:∀b,Ro b->¬ Sw b
 lt:∀g b,Own g b->b<n
 vV:∀b,Ro b->b<n
 pV:∀b,Sw b->b<n
structure TI(Sw:Nat->Prop)(n:Nat)(live:Nat->Prop)(Own:Nat->Nat->Prop)(Ro:Nat->Prop)(t:Trace)(N:Nat):Prop where
 quiet:Quiet (tN Sw) t
 own:∀g b,live g->Own g b->∀l,blk l=some b->Perm t g l
 ro:∀g b,live g->Ro b->∀l,blk l=some b->ConcN.PermW t g l
 fresh:∀i a b,touchAt t i=some a->blk a.loc=some b->b<n
 nr:∀said,¬ Race said t
 gs:∀(i:Nat) (op:MemOp),t[i]? = some op->op.g<N
def Dn(Own:Nat->Nat->Prop)(g n n':Nat):Nat->Nat->Prop:=λg' b=>Own g' b\/(g'=g/\n<=b/\b<n')
theorem Ap.grow{Sw:Nat->Prop}{n n':Nat}{H:Nat->Nat->Prop}{Ro:Nat->Prop}(A:Ap Sw n H Ro)(g:Nat)(hn:n<=n'):Ap Sw n' (Dn H g n n') Ro where
 own:=by
  rintro x y b (e|⟨rfl,e,_⟩) (h2|⟨rfl,h2,_⟩)
  ·exact A.own _ _ _ e h2
  ·have:=A.lt _ _ e;omega
  ·have:=A.lt _ _ h2;omega
  ·rfl
 ro:=by
  rintro x b (e|⟨rfl,e,_⟩) h2
  ·exact A.ro _ _ e h2
  ·have:=A.vV _ h2;omega
 sw:=by
  rintro x b (e|⟨rfl,e,_⟩) h2
  ·exact A.sw _ _ e h2
  ·have:=A.pV _ h2;omega
 qM:=A.qM
 lt:=by
  rintro x b (e|⟨_,_,e⟩)
  ·exact lt_of_lt_of_le (A.lt _ _ e) hn
  ·exact e
 vV:=λb h=>lt_of_lt_of_le (A.vV b h) hn
 pV:=λb h=>lt_of_lt_of_le (A.pV b h) hn
theorem TI.step{Sw:Nat->Prop}{n n' N:Nat}{live:Nat->Prop}{Z:Nat->Nat->Prop}{Ro:Nat->Prop}{t u:Trace}{g:Nat}(A:Ap Sw n Z Ro)(h:TI Sw n live Z Ro t N)(hg:live g)(hN:g<N)(hn:n<=n')
  (hu:∀op∈u,OkG Sw g (λb=>Z g b\/(n<=b/\b<n')) Ro op):TI Sw n' live (Dn Z g n n') Ro (t++u) N:=by
 have A':=A.grow g hn;have old:∀op∈u,∀x,op.act.touch? = some x->∀b,blk x.loc=some b->∀g',Z g' b->g'=g:=by
  intro op M x U b I g' ho;rcases (hu op M).2 x U with⟨hs,_⟩|⟨b',hb',H⟩
  ·obtain⟨b2,J,h3⟩:=hs.blk;rw[J] at I;cases I;exact absurd h3 (A.sw _ _ ho)
  ·rw[hb'] at I;cases I;rcases H with (H|⟨H,_⟩)|⟨H,_⟩
   ·exact A.own _ _ _ ho H
   ·have:=A.lt _ _ ho;omega
   ·exact absurd H (A.ro _ _ ho)
 refine⟨h.quiet.app λop M x U hs=>?_,λg' b hl ho l I=>?_,λg' b hl hr l I=>?_,λi a b ha I=>?_,λsaid=>?_,λi op hi=>?_⟩
 ·rcases (hu op M).2 x U with⟨_,H,J⟩|⟨b,I,H⟩
  ·exact⟨H,λe=>(hu op M).1.trans (J e)⟩
  ·obtain⟨b2,J,h3⟩:=hs.blk;rw[J] at I;cases I;rcases H with (H|⟨H,_⟩)|⟨H,_⟩
   ·exact absurd h3 (A.sw _ _ H)
   ·have:=A.pV _ h3;omega
   ·exact absurd h3 (A.qM _ H)
 ·rcases ho with ho|⟨rfl,H,J⟩
  ·refine (h.own g' b hl ho l I).app λop M x U e=>?_
   rw[(hu op M).1];exact (old op M x U b (by rw[e];exact I) g' ho).symm
  ·intro i a ha e;obtain⟨x,U,hxa⟩:=touch_of ha;rcases getElem?_append_cases U with⟨_,hx'⟩|⟨_,hxu⟩
   ·have:=h.fresh i a b (by rw[touchAt_of hx'];exact hxa) (by rw[e];exact I);omega
   ·have:=knows_own U;rwa [(hu x hxu).1] at this
 ·refine (h.ro g' b hl hr l I).app λop M x U e hw=>?_
  rcases (hu op M).2 x U with⟨hs,_⟩|⟨b',hb',H⟩
  ·obtain⟨b2,J,h3⟩:=hs.blk;rw[e,I] at J;cases J;exact absurd h3 (A.qM _ hr)
  ·rw[e,I] at hb';cases hb';rcases H with (H|⟨H,_⟩)|⟨H,J⟩
   ·exact absurd hr (A.ro _ _ H)
   ·have:=A.vV _ hr;omega
   ·rw[J] at hw;cases hw
 ·obtain⟨x,U,hxa⟩:=touch_of ha;rcases getElem?_append_cases U with⟨_,hx'⟩|⟨_,hxu⟩
  ·exact lt_of_lt_of_le (h.fresh i a b (by rw[touchAt_of hx'];exact hxa) I) hn
  ·rcases (hu x hxu).2 a hxa with⟨hs,_⟩|⟨b',hb',H⟩
   ·obtain⟨b2,J,h3⟩:=hs.blk;rw[J] at I;cases I;exact lt_of_lt_of_le (A.pV _ h3) hn
   ·rw[hb'] at I;cases I;rcases H with (H|⟨_,H⟩)|⟨H,_⟩
    ·exact lt_of_lt_of_le (A.lt _ _ H) hn
    ·exact H
    ·exact lt_of_lt_of_le (A.vV _ H) hn
 ·refine noRace_append (h.nr said) (λop M=>(hu op M).1) (λi a ha op M b I hc=>?_);rcases (hu op M).2 b I with⟨hs,hk,hn'⟩|⟨bb,Ñ,H⟩
  ·exact h.quiet.known hs hk hn' i a ha hc
  ·rcases H with (H|⟨H,_⟩)|⟨H,hw⟩
   ·exact h.own g bb hg H _ Ñ i a ha hc.1
   ·have:=h.fresh i a bb ha (by rw[hc.1];exact Ñ);omega
   ·exact h.ro g bb hg H _ Ñ i a ha hc.1 (hc.2.2.1.resolve_right (by simp[hw]))
 ·rcases getElem?_append_cases hi with⟨_,hi'⟩|⟨_,hiu⟩
  ·exact h.gs i op hi'
  ·rw[(hu op hiu).1];exact hN
theorem TI.still{Sw:Nat->Prop}{n N N':Nat}{live Dp:Nat->Prop}{U Own':Nat->Nat->Prop}{Ro:Nat->Prop}{t u:Trace}(h:TI Sw n live U Ro t N)(hN:N<=N')(hu:∀op∈u,op.act.touch? = none/\op.g<N')
  (ho:∀g b,Dp g->Own' g b->∃g',live g'/\U g' b/\∀i,Knows t g' i->Knows (t++u) g i) (hr:∀g,Dp g->∃g',live g'/\∀i,Knows t g' i->Knows (t++u) g i):TI Sw n Dp Own' Ro (t++u) N':=by
 have H:∀ {i:Nat} {a:Touch},touchAt (t++u) i=some a->touchAt t i=some a:=by
  intro i a I;obtain⟨z,hz,M⟩:=touch_of I;rcases getElem?_append_cases hz with⟨_,hz'⟩|⟨_,hzu⟩
  ·rw[touchAt_of hz'];exact M
  ·rw[(hu z hzu).1] at M;cases M
 refine⟨h.quiet.app (λop ό x hx=>(by rw[(hu op ό).1] at hx;cases hx)),λg b hl ho' l J i a I e=>?_,λg b hl hr' l J i a I e hw=>?_,λi a b I J=>h.fresh i a b (H I) J,λsaid=>?_,λi op hi=>?_⟩
 ·obtain⟨g',h1,h2,h3⟩:=ho g b hl ho';exact h3 i (h.own g' b h1 h2 l J i a (H I) e)
 ·obtain⟨g',h1,h2⟩:=hr g hl;exact h2 i (h.ro g' b h1 hr' l J i a (H I) e hw)
 ·rintro⟨i,j,hij,⟨a,b,I,J,hc⟩,n1,n2⟩;have Z:=H I;have hb':=H J;obtain⟨x,hx,_⟩:=touch_of Z;obtain⟨y,hy,_⟩:=touch_of hb';exact h.nr said ⟨i,j,hij,⟨a,b,Z,hb',hc⟩,λe=>n1 (hb_app u e),λe=>n2 (hb_app u e)⟩
 ·rcases getElem?_append_cases hi with⟨_,hi'⟩|⟨_,hiu⟩
  ·exact lt_of_lt_of_le (h.gs i op hi') hN
  ·exact (hu op hiu).2
def Ϸ(s r c m:Nat)(x y:FuncId)(px py:String):Trace:=#[⟨s,x,px,.send c m⟩,⟨r,y,py,.recv c m 0⟩,⟨s,x,px,.sendDone c m⟩,⟨r,y,py,.recvDone c m⟩]
theorem QN{t:Trace}{s r c m:Nat}{x y:FuncId}{e H:String}(hs:Deaf t s=0)(hr:Deaf t r=0):(∀i,Knows t s i->Knows (t++Ϸ s r c m x y e H) r i)/\∀i,Knows t r i->Knows (t++Ϸ s r c m x y e H) s i:=by
 have J:(t++Ϸ s r c m x y e H)[t.size]? = some ⟨s,x,e,.send c m⟩:=by rw[Array.getElem?_append_right (le_refl _)];simp[Ϸ]
 have M:(t++Ϸ s r c m x y e H)[t.size+1]? = some ⟨r,y,H,.recv c m 0⟩:=by rw[Array.getElem?_append_right bB];simp[Ϸ]
 have U:(t++Ϸ s r c m x y e H)[t.size+2]? = some ⟨s,x,e,.sendDone c m⟩:=by rw[Array.getElem?_append_right bB];simp[Ϸ]
 have Z:(t++Ϸ s r c m x y e H)[t.size+3]? = some ⟨r,y,H,.recvDone c m⟩:=by rw[Array.getElem?_append_right bB];simp[Ϸ]
 have I:∀g,Deaf t g=0->∀k,k<=3->(t++Ϸ s r c m x y e H).deaf g (t.size+k)=0:=by
  intro g hg k hk;have z0:(t++Ϸ s r c m x y e H).deaf g t.size=0:=by rw[deaf_old (le_refl _)];exact hg
  have z1:(t++Ϸ s r c m x y e H).deaf g (t.size+1)=0:=by rw[deaf_succ J,z0];rfl
  have z2:(t++Ϸ s r c m x y e H).deaf g (t.size+2)=0:=by rw[deaf_succ M,z1];rfl
  have z3:(t++Ϸ s r c m x y e H).deaf g (t.size+3)=0:=by rw[deaf_succ U,z2];rfl
  rcases (by omega:k=0\/k=1\/k=2\/k=3) with rfl|rfl|rfl|rfl
  ·exact z0
  ·exact z1
  ·exact z2
  ·exact z3
 have e0:(t++Ϸ s r c m x y e H).heard t.size:=⟨s,by simp[Trace.g?,J],I s hs 0 bB⟩;have e1:(t++Ϸ s r c m x y e H).heard (t.size+1):=⟨r,by simp[Trace.g?,M],I r hr 1 bB⟩;have e2:(t++Ϸ s r c m x y e H).heard (t.size+2):=⟨s,by simp[Trace.g?,U],I s hs 2 bB⟩;have e3:(t++Ϸ s r c m x y e H).heard (t.size+3):=⟨r,by simp[Trace.g?,Z],I r hr 3 bB⟩;refine⟨λi h=>?_,λi h=>?_⟩
 ·exact⟨t.size+3,_,Z,rfl,.inr ((h.hb_new (le_refl _) J rfl).trans (.single (.inr ⟨.handOver (c:=c) (k:=m) (by rw[act?_of J]) (by rw[act?_of Z]),e0,e3⟩)))⟩
 ·exact⟨t.size+2,_,U,rfl,.inr ((h.hb_new bB M rfl).trans (.single (.inr ⟨.room (c:=c) (k:=m) (cap:=0) (by rw[act?_of M]) (by rw[act?_of U];rfl),e1,e2⟩)))⟩
theorem QO{s r c m:Nat}{x y:FuncId}{I J:String}{N:Nat}(e:s<N)(hr:r<N):∀op∈Ϸ s r c m x y I J,op.act.touch? = none/\op.g<N:=by
 intro op H;simp only[Ϸ,mem_toArray,mem_cons,not_mem_nil,or_false] at H;rcases H with rfl|rfl|rfl|rfl
 ·exact⟨rfl,e⟩
 ·exact⟨rfl,hr⟩
 ·exact⟨rfl,e⟩
 ·exact⟨rfl,hr⟩
end Px
namespace Px
open Go Go.Conc
theorem mem_partners{gs:Array Goroutine}{r:Nat}{send:Bool}{h k:Nat}:(h,k)∈partners gs r send↔∃g cs sh c,gs[h]? = some g/\g.status = .blocked/\g.offers=some (cs,sh)/\cs[k]? = some c/\c.send.isSome=send/\c.chan = .chan (some r):=by
 unfold partners;simp only[mem_flatMap];constructor
 ·rintro⟨⟨g,i⟩,hm,hx⟩;rw[Array.mem_toList_iff,Array.mem_zipIdx_iff_getElem?] at hm;dsimp only at hm hx;split at hx
  ·rename_i cs sh J I;simp only[mem_map,mem_filter,Prod.mk.injEq] at hx;obtain⟨⟨c,k'⟩,⟨hc,e⟩,rfl,rfl⟩:=hx;rw[Array.mem_toList_iff,Array.mem_zipIdx_iff_getElem?] at hc;dsimp only at hc e;simp only[Bool.and_eq_true,beq_iff_eq] at e;refine⟨g,cs,sh,c,hm,J,I,hc,e.1,?_⟩;have:=e.2;split at this
   ·rename_i r' H;simp only[beq_iff_eq] at this;rw[H,this]
   ·cases this
  ·cases hx
 ·rintro⟨g,cs,sh,c,h1,h2,h3,h4,h5,h6⟩;refine⟨(g,h),?_,?_⟩
  ·rw[Array.mem_toList_iff,Array.mem_zipIdx_iff_getElem?];exact h1
  ·simp only[h2,h3,mem_map,mem_filter,Prod.mk.injEq];refine⟨(c,k),⟨?_,?_⟩,eO⟩
   ·rw[Array.mem_toList_iff,Array.mem_zipIdx_iff_getElem?];exact h4
   ·simp[h5,h6]
def kW(w:World)(r s:Nat):Prop:=∃tm,w.heap[r]? = some (.chan 0 #[] false s s tm)
theorem choose_lt{P:Program}{q:Question}{w:World}{n:Nat}(hn:0<n)(H:q.forced=false->∀t,q.cut t<n):∃a d,a<n/\(choose q).run P w = .ok a (w.at d):=by
 by_cases e:q.forced=true
 ·exact⟨0,w.drawn,hn,by simp[choose,Sem.run,e,World.at]⟩
 ·refine⟨q.cut (w.tape w.drawn q),w.drawn+1,H (by simpa using e) _,by simp[choose,Sem.run,e,World.at]⟩
theorem Gc{n:Nat}(hn:0<n)(t:Nat):(Question.select n).cut t<n:=Nat.mod_lt _ hn
theorem OZ{n:Nat}{s:String}(hn:0<n)(t:Nat):(Question.extern s n).cut t<n:=by
 simp only[Question.cut];rw[if_neg bB];exact Nat.mod_lt _ hn
theorem LB{w:World}{gs:Array Goroutine}{c:CommCase}{r s:Nat}(hr:c.chan = .chan (some r))(hc:kW w r s):ways w gs c=(partners gs r (!c.send.isSome)).map λx=>.partner x.1 x.2:=by
 obtain⟨H,hc⟩:=hc;unfold ways;cases e:c.send with
 | some v=>
  simp only[hr,hc,Option.isSome_some,Bool.not_true];cases partners gs r false<;>simp
 | none=>
  simp only[hr,hc,Option.isSome_none,Bool.not_false];cases partners gs r true<;>simp
theorem TQ{w:World}{gs:Array Goroutine}{c:CommCase}(hr:c.chan = .chan none):ways w gs c = []:=by
 unfold ways;simp[hr]
def sent(w:World)(r s:Nat):World:={ w with heap:=w.heap.modify r fun | .chan a b c _ _ d=>.chan a b c (s+1) (s+1) d|o=>o }
theorem Jp{w:World}{r s:Nat}{H:Bool}(h:w.heap[r]? = some (.chan 0 #[] false s s H)): { w with heap:=w.heap.setIfInBounds r (.chan 0 #[] false (s+1) (s+1) H) }=sent w r s:=by
 unfold sent;congr 1;apply Array.ext_getElem?;intro i;rw[Array.getElem?_setIfInBounds,Array.getElem?_modify];by_cases e:r=i
 ·subst e;obtain⟨I,he⟩:=Array.getElem?_eq_some_iff.1 h;simp[I,he]
 ·simp[e]
theorem BM{P:Program}{gs:Array Goroutine}{i:Nat}{g:Goroutine}{gy:Array CommCase}{shape:CommShape}{w:World}{sl:Option (Nat×Nat)}
  (Ĕ:∀(k:Nat) (c:CommCase),gy[k]? = some c->c.chan = .chan none\/∃r s,c.chan = .chan (some r)/\kW w r s) :
  (communicate P { timers:=#[],alone:=none,slice:=sl } gs i g gy true shape w=(.next (crowd (gs.setIfInBounds i { g with status:=.blocked,offers:=some (gy,shape) }) w sl),#[]) /\
   ∀(k:Nat) (c:CommCase) (r:Nat),gy[k]? = some c->c.chan = .chan (some r)->partners gs r (!c.send.isSome) = []) \/
  ∃(k:Nat) (c:CommCase) (r s h hk d:Nat),gy[k]? = some c/\c.chan = .chan (some r)/\kW w r s/\(h,hk)∈partners gs r (!c.send.isSome) /\
   ((∃v,c.send=some v/\communicate P { timers:=#[],alone:=none,slice:=sl } gs i g gy true shape w=(.next (crowd ((finishPartner P gs h hk v).setIfInBounds i (g.finishComm P gy shape k undef false)) (sent (w.at d) r s) sl),
     Ϸ i h r s g.frame.fn (gs.getD h default).frame.fn g.frame.place (gs.getD h default).frame.place)) \/
   (c.send=none/\communicate P { timers:=#[],alone:=none,slice:=sl } gs i g gy true shape w=(.next (crowd ((finishPartner P gs h hk undef).setIfInBounds i (g.finishComm P gy shape k (offeredValue gs h hk) true)) (sent (w.at d) r s) sl),
     Ϸ h i r s (gs.getD h default).frame.fn g.frame.fn (gs.getD h default).frame.place g.frame.place))):=by
 have aha:(gy.any λc=>match c.chan with | .chan none=>false | .chan (some r)=>!(w.heap[r]? matches some (.chan ..))|_=>true)=false:=by
  rw[Array.any_eq_false];intro k hk;rcases Ĕ k gy[k] (by simp[hk]) with h|⟨r,s,h,tm,hc⟩
  ·simp[h]
  ·simp[h,hc]
 have Ħ:∀x,x∈((gy.zipIdx.toList.map λ(c,k)=>(k,c,ways w gs c)).filter λ(_,_,H)=>!H.isEmpty)->∃r s,gy[x.1]? = some x.2.1/\x.2.1.chan = .chan (some r)/\kW w r s/\x.2.2=(partners gs r (!x.2.1.send.isSome)).map (λy=>Way.partner y.1 y.2)/\x.2.2 ≠ []:=by
  intro x hx;obtain⟨k,c,H⟩:=x;simp only[mem_filter,mem_map,Prod.mk.injEq] at hx;obtain⟨⟨⟨c',k'⟩,M,rfl,rfl,rfl⟩,U⟩:=hx;rw[Array.mem_toList_iff,Array.mem_zipIdx_iff_getElem?] at M;dsimp only at M U ⊢;rcases Ĕ k' c' M with h|⟨r,s,h,hc⟩
  ·rw[TQ h] at U;simp at U
  ·refine⟨r,s,M,h,hc,LB h hc,?_⟩;intro he;rw[he] at U;simp at U
 unfold communicate;dsimp only
 rw[if_neg (by rw[Bool.not_eq_true];exact aha)];have Ϝ:∀(k:Nat) (c:CommCase) (r:Nat),gy[k]? = some c->c.chan = .chan (some r)->partners gs r (!c.send.isSome) ≠ []->((gy.zipIdx.toList.map λ(c,k)=>(k,c,ways w gs c)).filter λ(_,_,H)=>!H.isEmpty) ≠ []:=by
  intro k c r hk hr hp;rcases Ĕ k c hk with h|⟨r',s,h,hc⟩
  ·rw[hr] at h;cases h
  ·rw[hr] at h;cases h;refine ne_nil_of_mem (a:=(k,c,ways w gs c)) ?_;simp only[mem_filter,mem_map,Prod.mk.injEq];refine⟨⟨(c,k),?_,rfl,rfl,rfl⟩,?_⟩
   ·rw[Array.mem_toList_iff,Array.mem_zipIdx_iff_getElem?];exact hk
   ·rw[LB hr hc];cases hpp:partners gs r (!c.send.isSome) with
    | nil=>exact absurd hpp hp
    | cons=>rfl
 generalize ali:((gy.zipIdx.toList.map λ(c,k)=>(k,c,ways w gs c)).filter λ(_,_,H)=>!H.isEmpty)=e at Ħ Ϝ;have aez:waitingAt { timers:=#[],alone:=none,slice:=sl } gy w=some w:=by
  unfold waitingAt timerAhead;have:(gy.any λc=>match c.chan with | .chan (some r)=>(#[]:Array Timer).any λt=>t.chan==some r&&t.when > w.os.mono|_=>false)=false:=by
   rw[Array.any_eq_false];intro k hk;cases gy[k].chan<;>simp
   split<;>simp
  rw[if_neg (by rw[Bool.not_eq_true];exact this)]
 by_cases he:e = []
 ·subst he;left;simp only[isEmpty_nil,if_true,aez];refine⟨rfl,λk c r hk hr=>Classical.byContradiction λhp=>Ϝ k c r hk hr hp rfl⟩
 ·right;have J:0<e.length:=length_pos_iff.2 he;have U:e.isEmpty=false:=by cases e<;>first|exact absurd rfl he|rfl
  obtain⟨a,d1,ha,QS⟩:=choose_lt (P:=P) (q:=.select e.length) (w:=w) J λ_ t=>Gc J t
  have ų:e.getD a (0,default,[])∈e:=by
   rw[getD_eq_getElem?_getD,List.getElem?_eq_getElem ha];exact getElem_mem ha
  obtain⟨r,s,h1,Z,h3,h4,h5⟩:=Ħ _ ų;generalize hx:e.getD a (0,default,[])=x at h1 Z h3 h4 h5;obtain⟨k,c,H⟩:=x;dsimp only at h1 Z h3 h4 h5;have Yp:0<H.length:=length_pos_iff.2 h5;obtain⟨b,d2,hb,QT⟩:=choose_lt (P:=P) (q:=.extern "which waiting goroutine is the partner" H.length) (w:=w.at d1) Yp λ_ t=>OZ Yp t
  obtain⟨y,hy,θ⟩:∃y,y∈partners gs r (!c.send.isSome)/\H.getD b .closed = .partner y.1 y.2:=by
   have M:H.getD b .closed∈H:=by
    rw[getD_eq_getElem?_getD,List.getElem?_eq_getElem hb];exact getElem_mem hb
   rw[h4] at M;obtain⟨y,hy,θ⟩:=mem_map.1 M;exact⟨y,hy,by rw[h4];exact θ.symm⟩
  obtain⟨h,hk⟩:=y;dsimp only at θ;obtain⟨tm,hc⟩:=id h3;have Ŵ:Sem.run P (do
       let a <-choose (Question.select e.length)
       let b <-choose (Question.extern "which waiting goroutine is the partner" (e.getD a (0,default,[])).2.snd.length)
       pure ((e.getD a (0,default,[])).fst,(e.getD a (0,default,[])).2.fst,(e.getD a (0,default,[])).2.snd.getD b Way.closed)) w = .ok (k,c,.partner h hk) (w.at d2):=by
   rw[Sem.run_bind,QS];simp only[Result.andThen_ok,hx];rw[Sem.run_bind,QT];simp only[Result.andThen_ok,θ];rfl
  refine⟨k,c,r,s,h,hk,d2,h1,Z,h3,hy,?_⟩;simp only[U,Bool.false_eq_true,if_false,Ŵ,Z];have I:(w.at d2).heap[r]? = some (.chan 0 #[] false s s tm):=hc;cases hs:c.send with
  | some v=>
   left;refine⟨v,rfl,?_⟩;simp only[I,Jp I];rfl
  | none=>
   right;refine⟨rfl,?_⟩;simp only[I,Jp I];rfl
end Px
namespace Px
open Go Go.Conc
def ph:Goroutine:={ (default:Goroutine) with status:=.finished }
theorem xE{P:Program}{gs:Array Goroutine}{i:Nat}{g g':Goroutine}{gy:Array CommCase}{shape:CommShape}{w w':World}{sl:Option (Nat×Nat)}(I:gs[i]? = some g)(h:stepG P (i==0) g w = .comm g' gy true shape w' #[]):
  runT P (crowd gs w sl) i=communicate P { timers:=#[],alone:=none,slice:=sl } (gs.setIfInBounds i ph) i g' gy true shape w':=by
 obtain⟨H,rfl⟩:=Array.getElem?_eq_some_iff.1 I;have J:=swapAt_of_lt H { (default:Goroutine) with status:=.finished };show runT P { world:=w,gs:=gs,rest:={ timers:=#[],alone:=none,slice:=sl } } i=_;unfold runT;have e:gs.setIfInBounds i ph=gs.set i ph:=by simp[Array.setIfInBounds,H]
 simp only[J,h,e,GStep.es,MemOp.ofEvents,Array.isEmpty_empty,if_true,Array.empty_append];rfl
theorem get_set_same{gs:Array Goroutine}{i:Nat}(h:i<gs.size)(x:Goroutine):(gs.setIfInBounds i x)[i]? = some x:=by simp[h]
theorem cZ{gs:Array Goroutine}{i j:Nat}(h:i≠j)(x:Goroutine):(gs.setIfInBounds i x)[j]? = gs[j]?:=Array.getElem?_setIfInBounds_ne h
theorem set_set{gs:Array Goroutine}{i:Nat}(x y:Goroutine):(gs.setIfInBounds i x).setIfInBounds i y=gs.setIfInBounds i y:=by
 apply Array.ext_getElem?;intro j;by_cases e:i=j
 ·subst e;by_cases H:i<gs.size
  ·rw[get_set_same (by simpa using H),get_set_same H]
  ·simp[H]
 ·rw[cZ e,cZ e,cZ e]
theorem uP{P:Program}{gs:Array Goroutine}{i h k:Nat}{v:Value}{g:Goroutine}{cs:Array CommCase}{sh:CommShape}(_:h≠i)(J:gs[h]? = some g)(M:g.offers=some (cs,sh))(x:Goroutine):
  (finishPartner P (gs.setIfInBounds i ph) h k v).setIfInBounds i x=(gs.setIfInBounds h (served g (commResult cs sh k v (((cs[k]?).map (·.send.isNone)).getD false)))).setIfInBounds i x:=by
 apply Array.ext_getElem?;intro j;by_cases e:i=j
 ·subst e;by_cases I:i<gs.size
  ·rw[get_set_same (by simpa [finishPartner] using I),get_set_same (by simpa using I)]
  ·simp[finishPartner,I]
 ·rw[cZ e,cZ e];unfold finishPartner;rw[Array.getElem?_modify];by_cases H:h=j
  ·subst H;have U:=(Array.getElem?_eq_some_iff.1 J).1;rw[if_pos rfl,cZ e,J,get_set_same U];simp only[Option.map_some,M];rfl
  ·rw[if_neg H,cZ e,cZ H]
theorem zR{w:World}{h:Goroutine}{cs:Array CommCase}{sh:CommShape}(H:h.status = .blocked)(e:h.offers=some (cs,sh))(hc:∀c,c∈cs->c.chan = .chan none\/∃r s,c.chan = .chan (some r)/\kW w r s):h.again w=h:=by
 obtain⟨M,I,U,J,off⟩:=h;dsimp only at e H;subst e H;unfold Goroutine.again;have:(cs.any λc=>match c.chan with | .chan (some r)=>(w.heap[r]? matches some (.chan _ _ true ..))|_=>false)=false:=by
  rw[Array.any_eq_false];intro k hk;rcases hc cs[k] (Array.getElem_mem hk) with h|⟨r,s,h,Z,hr⟩
  ·simp[h]
  ·simp[h,hr]
 dsimp only
 rw[if_neg (by rw[Bool.not_eq_true];exact this)]
theorem jZ{w:World}{h:Goroutine}(e:h.status = .running\/h.status = .finished):h.again w=h:=by
 obtain⟨J,H,M,I,off⟩:=h;rcases e with e|e<;>(dsimp only at e;subst e;rfl)
