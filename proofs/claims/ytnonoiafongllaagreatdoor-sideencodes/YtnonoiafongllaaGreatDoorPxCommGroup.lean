import Derived.Conc.Crowd
import Derived.Test.YtnonoiafongllaaGreatDoorPxRunsGroup
import Derived.Conc.CrowdTrace
namespace Px
open Go Go.Conc
def blk:Loc->Option Nat
 | .cell a=>some a.block
 | .obj r=>some r
 | _=>none
def nK (Sw:Nat->Prop):Loc->Prop:=fun l=>∃ b,blk l=some b/\Sw b
theorem nK.blk {Sw:Nat->Prop} {l:Loc} (h:nK Sw l):∃ b,blk l=some b/\Sw b:=h
def OkG (Sw:Nat->Prop) (g:Nat) (Own Ro:Nat->Prop) (op:MemOp):Prop:=
 op.g=g/\∀ x,op.act.touch? = some x->(nK Sw x.loc/\x.kind ≠ .plain/\(x.kind = .said->g=0))\/∃ b,Px.blk x.loc=some b/\(Own b\/(Ro b/\x.write=false))
structure Ap (Sw:Nat->Prop) (n:Nat) (Own:Nat->Nat->Prop) (Ro:Nat->Prop):Prop where
 own:∀ g g' b,Own g b->Own g' b->g=g'
 ro:∀ g b,Own g b->¬ Ro b
 sw:∀ g b,Own g b->¬ Sw b
 lS:∀ b,Ro b->¬ Sw b
 lt:∀ g b,Own g b->b<n
 pF:∀ b,Ro b->b<n
 kU:∀ b,Sw b->b<n
structure TI (Sw:Nat->Prop) (n:Nat) (live:Nat->Prop) (Own:Nat->Nat->Prop) (Ro:Nat->Prop) (t:Trace) (N:Nat):Prop where
 quiet:Quiet (nK Sw) t
 own:∀ g b,live g->Own g b->∀ l,blk l=some b->Perm t g l
 ro:∀ g b,live g->Ro b->∀ l,blk l=some b->ConcN.PermW t g l
 fresh:∀ i a b,touchAt t i=some a->blk a.loc=some b->b<n
 nr:∀ said,¬ Race said t
 gs:∀ (i:Nat) (op:MemOp),t[i]? = some op->op.g<N
def vY (Own:Nat->Nat->Prop) (g n n':Nat):Nat->Nat->Prop:=fun g' b=>Own g' b\/(g'=g/\n<=b/\b<n')
theorem Ap.grow {Sw:Nat->Prop} {n n':Nat} {Own:Nat->Nat->Prop} {Ro:Nat->Prop} (A:Ap Sw n Own Ro) (g:Nat) (hn:n<=n'):Ap Sw n' (vY Own g n n') Ro where
 own:=by
  rintro x y b (h1 | ⟨rfl,h1,_⟩) (h2 | ⟨rfl,h2,_⟩)
  ·exact A.own _ _ _ h1 h2
  ·have:=A.lt _ _ h1;omega
  ·have:=A.lt _ _ h2;omega
  ·rfl
 ro:=by
  rintro x b (h1 | ⟨rfl,h1,_⟩) h2
  ·exact A.ro _ _ h1 h2
  ·have:=A.pF _ h2;omega
 sw:=by
  rintro x b (h1 | ⟨rfl,h1,_⟩) h2
  ·exact A.sw _ _ h1 h2
  ·have:=A.kU _ h2;omega
 lS:=A.lS
 lt:=by
  rintro x b (h1 | ⟨_,_,h1⟩)
  ·exact Nat.lt_of_lt_of_le (A.lt _ _ h1) hn
  ·exact h1
 pF:=fun b h=>Nat.lt_of_lt_of_le (A.pF b h) hn
 kU:=fun b h=>Nat.lt_of_lt_of_le (A.kU b h) hn
theorem TI.step {Sw:Nat->Prop} {n n' N:Nat} {live:Nat->Prop} {Own:Nat->Nat->Prop} {Ro:Nat->Prop} {t u:Trace} {g:Nat} (A:Ap Sw n Own Ro) (h:TI Sw n live Own Ro t N) (hg:live g) (hN:g<N) (hn:n<=n')
  (hu:∀ op∈u,OkG Sw g (fun b=>Own g b\/(n<=b/\b<n')) Ro op):TI Sw n' live (vY Own g n n') Ro (t++u) N:=by
 have A':=A.grow g hn;have old:∀ op∈u,∀ x,op.act.touch? = some x->∀ b,blk x.loc=some b->∀ g',Own g' b->g'=g:=by
  intro op hop x hx b hb g' ho;rcases (hu op hop).2 x hx with⟨hs,_⟩|⟨b',hb',h1⟩
  ·obtain⟨b2,h2,h3⟩:=hs.blk;rw[h2] at hb;cases hb;exact absurd h3 (A.sw _ _ ho)
  ·rw[hb'] at hb;cases hb;rcases h1 with (h1 | ⟨h1,_⟩) | ⟨h1,_⟩
   ·exact A.own _ _ _ ho h1
   ·have:=A.lt _ _ ho;omega
   ·exact absurd h1 (A.ro _ _ ho)
 refine⟨h.quiet.app fun op hop x hx hs=>?_,fun g' b hl ho l hb=>?_,fun g' b hl hr l hb=>?_,fun i a b ha hb=>?_,fun said=>?_,fun i op hi=>?_⟩
 ·rcases (hu op hop).2 x hx with⟨_,h1,h2⟩|⟨b,hb,h1⟩
  ·exact⟨h1,fun e=>(hu op hop).1.trans (h2 e)⟩
  ·obtain⟨b2,h2,h3⟩:=hs.blk;rw[h2] at hb;cases hb;rcases h1 with (h1 | ⟨h1,_⟩) | ⟨h1,_⟩
   ·exact absurd h3 (A.sw _ _ h1)
   ·have:=A.kU _ h3;omega
   ·exact absurd h3 (A.lS _ h1)
 ·rcases ho with ho | ⟨rfl,h1,h2⟩
  ·refine (h.own g' b hl ho l hb).app fun op hop x hx e=>?_
   rw[(hu op hop).1];exact (old op hop x hx b (by rw[e];exact hb) g' ho).symm
  ·intro i a ha e;obtain⟨x,hx,hxa⟩:=touch_of ha;rcases getElem?_append_cases hx with⟨_,hx'⟩|⟨_,hxu⟩
   ·have:=h.fresh i a b (by rw[touchAt_of hx'];exact hxa) (by rw[e];exact hb);omega
   ·have:=knows_own hx;rwa [(hu x hxu).1] at this
 ·refine (h.ro g' b hl hr l hb).app fun op hop x hx e hw=>?_
  rcases (hu op hop).2 x hx with⟨hs,_⟩|⟨b',hb',h1⟩
  ·obtain⟨b2,h2,h3⟩:=hs.blk;rw[e,hb] at h2;cases h2;exact absurd h3 (A.lS _ hr)
  ·rw[e,hb] at hb';cases hb';rcases h1 with (h1 | ⟨h1,_⟩) | ⟨h1,h2⟩
   ·exact absurd hr (A.ro _ _ h1)
   ·have:=A.pF _ hr;omega
   ·rw[h2] at hw;cases hw
 ·obtain⟨x,hx,hxa⟩:=touch_of ha;rcases getElem?_append_cases hx with⟨_,hx'⟩|⟨_,hxu⟩
  ·exact Nat.lt_of_lt_of_le (h.fresh i a b (by rw[touchAt_of hx'];exact hxa) hb) hn
  ·rcases (hu x hxu).2 a hxa with⟨hs,_⟩|⟨b',hb',h1⟩
   ·obtain⟨b2,h2,h3⟩:=hs.blk;rw[h2] at hb;cases hb;exact Nat.lt_of_lt_of_le (A.kU _ h3) hn
   ·rw[hb'] at hb;cases hb;rcases h1 with (h1 | ⟨_,h1⟩) | ⟨h1,_⟩
    ·exact Nat.lt_of_lt_of_le (A.lt _ _ h1) hn
    ·exact h1
    ·exact Nat.lt_of_lt_of_le (A.pF _ h1) hn
 ·refine noRace_append (h.nr said) (fun op hop=>(hu op hop).1) (fun i a ha op hop b hb hc=>?_);rcases (hu op hop).2 b hb with⟨hs,hk,hn'⟩|⟨bb,hbb,h1⟩
  ·exact h.quiet.known hs hk hn' i a ha hc
  ·rcases h1 with (h1 | ⟨h1,_⟩) | ⟨h1,hw⟩
   ·exact h.own g bb hg h1 _ hbb i a ha hc.1
   ·have:=h.fresh i a bb ha (by rw[hc.1];exact hbb);omega
   ·exact h.ro g bb hg h1 _ hbb i a ha hc.1 (hc.2.2.1.resolve_right (by simp[hw]))
 ·rcases getElem?_append_cases hi with⟨_,hi'⟩|⟨_,hiu⟩
  ·exact h.gs i op hi'
  ·rw[(hu op hiu).1];exact hN
theorem TI.still {Sw:Nat->Prop} {n N N':Nat} {live vZ:Nat->Prop} {Own Own':Nat->Nat->Prop} {Ro:Nat->Prop} {t u:Trace} (h:TI Sw n live Own Ro t N) (hN:N<=N') (hu:∀ op∈u,op.act.touch? = none/\op.g<N')
  (ho:∀ g b,vZ g->Own' g b->∃ g',live g'/\Own g' b/\∀ i,Knows t g' i->Knows (t++u) g i) (hr:∀ g,vZ g->∃ g',live g'/\∀ i,Knows t g' i->Knows (t++u) g i):TI Sw n vZ Own' Ro (t++u) N':=by
 have old:∀ {i:Nat} {a:Touch},touchAt (t++u) i=some a->touchAt t i=some a:=by
  intro i a ha;obtain⟨z,hz,hza⟩:=touch_of ha;rcases getElem?_append_cases hz with⟨_,hz'⟩|⟨_,hzu⟩
  ·rw[touchAt_of hz'];exact hza
  ·rw[(hu z hzu).1] at hza;cases hza
 refine⟨h.quiet.app (fun op hop x hx=>(by rw[(hu op hop).1] at hx;cases hx)),fun g b hl ho' l hb i a ha e=>?_,fun g b hl hr' l hb i a ha e hw=>?_,fun i a b ha hb=>h.fresh i a b (old ha) hb,fun said=>?_,fun i op hi=>?_⟩
 ·obtain⟨g',h1,h2,h3⟩:=ho g b hl ho';exact h3 i (h.own g' b h1 h2 l hb i a (old ha) e)
 ·obtain⟨g',h1,h2⟩:=hr g hl;exact h2 i (h.ro g' b h1 hr' l hb i a (old ha) e hw)
 ·rintro⟨i,j,hij,⟨a,b,ha,hb,hc⟩,n1,n2⟩;have ha':=old ha;have hb':=old hb;obtain⟨x,hx,_⟩:=touch_of ha';obtain⟨y,hy,_⟩:=touch_of hb';exact h.nr said ⟨i,j,hij,⟨a,b,ha',hb',hc⟩,fun e=>n1 (hb_app u e),fun e=>n2 (hb_app u e)⟩
 ·rcases getElem?_append_cases hi with⟨_,hi'⟩|⟨_,hiu⟩
  ·exact Nat.lt_of_lt_of_le (h.gs i op hi') hN
  ·exact (hu op hiu).2
def hand (s r c m:Nat) (x y:FuncId) (px py:String):Trace:=#[⟨s,x,px,.send c m⟩,⟨r,y,py,.recv c m 0⟩,⟨s,x,px,.sendDone c m⟩,⟨r,y,py,.recvDone c m⟩]
theorem GK {t:Trace} {s r c m:Nat} {x y:FuncId} {px py:String} (hs:Deaf t s=0) (hr:Deaf t r=0):(∀ i,Knows t s i->Knows (t++hand s r c m x y px py) r i)/\∀ i,Knows t r i->Knows (t++hand s r c m x y px py) s i:=by
 have g0:(t++hand s r c m x y px py)[t.size]? = some ⟨s,x,px,.send c m⟩:=by rw[Array.getElem?_append_right (Nat.le_refl _)];simp[hand]
 have g1:(t++hand s r c m x y px py)[t.size+1]? = some ⟨r,y,py,.recv c m 0⟩:=by rw[Array.getElem?_append_right (by omega)];simp[hand]
 have g2:(t++hand s r c m x y px py)[t.size+2]? = some ⟨s,x,px,.sendDone c m⟩:=by rw[Array.getElem?_append_right (by omega)];simp[hand]
 have g3:(t++hand s r c m x y px py)[t.size+3]? = some ⟨r,y,py,.recvDone c m⟩:=by rw[Array.getElem?_append_right (by omega)];simp[hand]
 have ds:∀ g,Deaf t g=0->∀ k,k<=3->(t++hand s r c m x y px py).deaf g (t.size+k)=0:=by
  intro g hg k hk;have z0:(t++hand s r c m x y px py).deaf g t.size=0:=by rw[deaf_old (Nat.le_refl _)];exact hg
  have z1:(t++hand s r c m x y px py).deaf g (t.size+1)=0:=by rw[deaf_succ g0,z0];rfl
  have z2:(t++hand s r c m x y px py).deaf g (t.size+2)=0:=by rw[deaf_succ g1,z1];rfl
  have z3:(t++hand s r c m x y px py).deaf g (t.size+3)=0:=by rw[deaf_succ g2,z2];rfl
  rcases (by omega:k=0\/k=1\/k=2\/k=3) with rfl | rfl | rfl | rfl
  ·exact z0
  ·exact z1
  ·exact z2
  ·exact z3
 have e0:(t++hand s r c m x y px py).heard t.size:=⟨s,by simp[Trace.g?,g0],ds s hs 0 (by omega)⟩;have e1:(t++hand s r c m x y px py).heard (t.size+1):=⟨r,by simp[Trace.g?,g1],ds r hr 1 (by omega)⟩;have e2:(t++hand s r c m x y px py).heard (t.size+2):=⟨s,by simp[Trace.g?,g2],ds s hs 2 (by omega)⟩;have e3:(t++hand s r c m x y px py).heard (t.size+3):=⟨r,by simp[Trace.g?,g3],ds r hr 3 (by omega)⟩;refine⟨fun i h=>?_,fun i h=>?_⟩
 ·exact⟨t.size+3,_,g3,rfl,.inr ((h.hb_new (Nat.le_refl _) g0 rfl).trans (.single (.inr ⟨.handOver (c:=c) (k:=m) (by rw[act?_of g0]) (by rw[act?_of g3]),e0,e3⟩)))⟩
 ·exact⟨t.size+2,_,g2,rfl,.inr ((h.hb_new (by omega) g1 rfl).trans (.single (.inr ⟨.room (c:=c) (k:=m) (cap:=0) (by rw[act?_of g1]) (by rw[act?_of g2];rfl),e1,e2⟩)))⟩
theorem GL {s r c m:Nat} {x y:FuncId} {px py:String} {N:Nat} (hs:s<N) (hr:r<N):∀ op∈hand s r c m x y px py,op.act.touch? = none/\op.g<N:=by
 intro op hop;simp only[hand,List.mem_toArray,List.mem_cons,List.not_mem_nil,or_false] at hop;rcases hop with rfl | rfl | rfl | rfl
 ·exact⟨rfl,hs⟩
 ·exact⟨rfl,hr⟩
 ·exact⟨rfl,hs⟩
 ·exact⟨rfl,hr⟩
end Px
namespace Px
open Go Go.Conc
theorem mem_partners {gs:Array Goroutine} {r:Nat} {send:Bool} {h k:Nat}:(h,k)∈partners gs r send↔∃ g cs sh c,gs[h]? = some g/\g.status = .blocked/\g.offers=some (cs,sh)/\cs[k]? = some c/\c.send.isSome=send/\c.chan = .chan (some r):=by
 unfold partners;simp only[List.mem_flatMap];constructor
 ·rintro⟨⟨g,i⟩,hm,hx⟩;rw[Array.mem_toList_iff,Array.mem_zipIdx_iff_getElem?] at hm;dsimp only at hm hx;split at hx
  ·rename_i cs sh hst ho;simp only[List.mem_map,List.mem_filter,Prod.mk.injEq] at hx;obtain⟨⟨c,k'⟩,⟨hc,hp⟩,rfl,rfl⟩:=hx;rw[Array.mem_toList_iff,Array.mem_zipIdx_iff_getElem?] at hc;dsimp only at hc hp;simp only[Bool.and_eq_true,beq_iff_eq] at hp;refine⟨g,cs,sh,c,hm,hst,ho,hc,hp.1,?_⟩;have:=hp.2;split at this
   ·rename_i r' hr';simp only[beq_iff_eq] at this;rw[hr',this]
   ·cases this
  ·cases hx
 ·rintro⟨g,cs,sh,c,h1,h2,h3,h4,h5,h6⟩;refine⟨(g,h),?_,?_⟩
  ·rw[Array.mem_toList_iff,Array.mem_zipIdx_iff_getElem?];exact h1
  ·simp only[h2,h3,List.mem_map,List.mem_filter,Prod.mk.injEq];refine⟨(c,k),⟨?_,?_⟩,by simp⟩
   ·rw[Array.mem_toList_iff,Array.mem_zipIdx_iff_getElem?];exact h4
   ·simp[h5,h6]
def iJ (w:World) (r s:Nat):Prop:=∃ tm,w.heap[r]? = some (.chan 0 #[] false s s tm)
theorem choose_lt {P:Program} {q:Question} {w:World} {n:Nat} (hn:0<n) (h0:q.forced=false->∀ t,q.cut t<n):∃ a d,a<n/\(choose q).run P w = .ok a (w.at d):=by
 by_cases hf:q.forced=true
 ·exact⟨0,w.drawn,hn,by simp[choose,Sem.run,hf,World.at]⟩
 ·refine⟨q.cut (w.tape w.drawn q),w.drawn+1,h0 (by simpa using hf) _,by simp[choose,Sem.run,hf,World.at]⟩
theorem yO {n:Nat} (hn:0<n) (t:Nat):(Question.select n).cut t<n:=Nat.mod_lt _ hn
theorem FE {n:Nat} {s:String} (hn:0<n) (t:Nat):(Question.extern s n).cut t<n:=by
 simp only[Question.cut];rw[if_neg (by omega)];exact Nat.mod_lt _ hn
theorem CZ {w:World} {gs:Array Goroutine} {c:CommCase} {r s:Nat} (hr:c.chan = .chan (some r)) (hc:iJ w r s):ways w gs c=(partners gs r (!c.send.isSome)).map fun x=>.partner x.1 x.2:=by
 obtain⟨tm,hc⟩:=hc;unfold ways;cases hs:c.send with
 | some v=>
  simp only[hr,hc,Option.isSome_some,Bool.not_true];cases partners gs r false<;>simp
 | none=>
  simp only[hr,hc,Option.isSome_none,Bool.not_false];cases partners gs r true<;>simp
theorem JQ {w:World} {gs:Array Goroutine} {c:CommCase} (hr:c.chan = .chan none):ways w gs c = []:=by
 unfold ways;simp[hr]
def sent (w:World) (r s:Nat):World:={ w with heap:=w.heap.modify r fun | .chan a b c _ _ d=>.chan a b c (s+1) (s+1) d | o=>o }
theorem Ba {w:World} {r s:Nat} {tm:Bool} (h:w.heap[r]? = some (.chan 0 #[] false s s tm)) : { w with heap:=w.heap.setIfInBounds r (.chan 0 #[] false (s+1) (s+1) tm) }=sent w r s:=by
 unfold sent;congr 1;apply Array.ext_getElem?;intro i;rw[Array.getElem?_setIfInBounds,Array.getElem?_modify];by_cases hi:r=i
 ·subst hi;obtain⟨hlt,he⟩:=Array.getElem?_eq_some_iff.1 h;simp[hlt,he]
 ·simp[hi]
theorem uF {P:Program} {gs:Array Goroutine} {i:Nat} {g:Goroutine} {dz:Array CommCase} {shape:CommShape} {w:World} {sl:Option (Nat×Nat)}
  (hch:∀ (k:Nat) (c:CommCase),dz[k]? = some c->c.chan = .chan none\/∃ r s,c.chan = .chan (some r)/\iJ w r s) :
  (communicate P { timers:=#[],alone:=none,slice:=sl } gs i g dz true shape w=(.next (crowd (gs.setIfInBounds i { g with status:=.blocked,offers:=some (dz,shape) }) w sl),#[]) /\
   ∀ (k:Nat) (c:CommCase) (r:Nat),dz[k]? = some c->c.chan = .chan (some r)->partners gs r (!c.send.isSome) = []) \/
  ∃ (k:Nat) (c:CommCase) (r s h hk d:Nat),dz[k]? = some c/\c.chan = .chan (some r)/\iJ w r s/\(h,hk)∈partners gs r (!c.send.isSome) /\
   ((∃ v,c.send=some v/\communicate P { timers:=#[],alone:=none,slice:=sl } gs i g dz true shape w=(.next (crowd ((finishPartner P gs h hk v).setIfInBounds i (g.finishComm P dz shape k undef false)) (sent (w.at d) r s) sl),
     hand i h r s g.frame.fn (gs.getD h default).frame.fn g.frame.place (gs.getD h default).frame.place)) \/
   (c.send=none/\communicate P { timers:=#[],alone:=none,slice:=sl } gs i g dz true shape w=(.next (crowd ((finishPartner P gs h hk undef).setIfInBounds i (g.finishComm P dz shape k (offeredValue gs h hk) true)) (sent (w.at d) r s) sl),
     hand h i r s (gs.getD h default).frame.fn g.frame.fn (gs.getD h default).frame.place g.frame.place))):=by
 have Xv:(dz.any fun c=>match c.chan with | .chan none=>false | .chan (some r)=>!(w.heap[r]? matches some (.chan ..)) | _=>true)=false:=by
  rw[Array.any_eq_false];intro k hk;rcases hch k dz[k] (by simp[hk]) with h | ⟨r,s,h,tm,hc⟩
  ·simp[h]
  ·simp[h,hc]
 have hrd:∀ x,x∈((dz.zipIdx.toList.map fun (c,k)=>(k,c,ways w gs c)).filter fun (_,_,ws)=>!ws.isEmpty)->∃ r s,dz[x.1]? = some x.2.1/\x.2.1.chan = .chan (some r)/\iJ w r s/\x.2.2=(partners gs r (!x.2.1.send.isSome)).map (fun y=>Way.partner y.1 y.2)/\x.2.2 ≠ []:=by
  intro x hx;obtain⟨k,c,ws⟩:=x;simp only[List.mem_filter,List.mem_map,Prod.mk.injEq] at hx;obtain⟨⟨⟨c',k'⟩,hm,rfl,rfl,rfl⟩,hne⟩:=hx;rw[Array.mem_toList_iff,Array.mem_zipIdx_iff_getElem?] at hm;dsimp only at hm hne ⊢;rcases hch k' c' hm with h | ⟨r,s,h,hc⟩
  ·rw[JQ h] at hne;simp at hne
  ·refine⟨r,s,hm,h,hc,CZ h hc,?_⟩;intro he;rw[he] at hne;simp at hne
 unfold communicate;dsimp only
 rw[if_neg (by rw[Bool.not_eq_true];exact Xv)];have hall:∀ (k:Nat) (c:CommCase) (r:Nat),dz[k]? = some c->c.chan = .chan (some r)->partners gs r (!c.send.isSome) ≠ []->((dz.zipIdx.toList.map fun (c,k)=>(k,c,ways w gs c)).filter fun (_,_,ws)=>!ws.isEmpty) ≠ []:=by
  intro k c r hk hr hp;rcases hch k c hk with h | ⟨r',s,h,hc⟩
  ·rw[hr] at h;cases h
  ·rw[hr] at h;cases h;refine List.ne_nil_of_mem (a:=(k,c,ways w gs c)) ?_;simp only[List.mem_filter,List.mem_map,Prod.mk.injEq];refine⟨⟨(c,k),?_,rfl,rfl,rfl⟩,?_⟩
   ·rw[Array.mem_toList_iff,Array.mem_zipIdx_iff_getElem?];exact hk
   ·rw[CZ hr hc];cases hpp:partners gs r (!c.send.isSome) with
    | nil=>exact absurd hpp hp
    | cons=>rfl
 generalize abn:((dz.zipIdx.toList.map fun (c,k)=>(k,c,ways w gs c)).filter fun (_,_,ws)=>!ws.isEmpty)=ready at hrd hall;have U5:waitingAt { timers:=#[],alone:=none,slice:=sl } dz w=some w:=by
  unfold waitingAt timerAhead;have:(dz.any fun c=>match c.chan with | .chan (some r)=>(#[]:Array Timer).any fun t=>t.chan==some r&&t.when > w.os.mono | _=>false)=false:=by
   rw[Array.any_eq_false];intro k hk;cases dz[k].chan<;>simp
   split<;>simp
  rw[if_neg (by rw[Bool.not_eq_true];exact this)]
 by_cases he:ready = []
 ·subst he;left;simp only[List.isEmpty_nil,if_true,U5];refine⟨rfl,fun k c r hk hr=>Classical.byContradiction fun hp=>hall k c r hk hr hp rfl⟩
 ·right;have hpos:0<ready.length:=List.length_pos_iff.2 he;have hne:ready.isEmpty=false:=by cases ready<;>first | exact absurd rfl he | rfl
  obtain⟨a,d1,ha,GN⟩:=choose_lt (P:=P) (q:=.select ready.length) (w:=w) hpos fun _ t=>yO hpos t
  have hmem:ready.getD a (0,default,[])∈ready:=by
   rw[List.getD_eq_getElem?_getD,List.getElem?_eq_getElem ha];exact List.getElem_mem ha
  obtain⟨r,s,h1,h2,h3,h4,h5⟩:=hrd _ hmem;generalize hx:ready.getD a (0,default,[])=x at h1 h2 h3 h4 h5;obtain⟨k,c,ws⟩:=x;dsimp only at h1 h2 h3 h4 h5;have OD:0<ws.length:=List.length_pos_iff.2 h5;obtain⟨b,d2,hb,GQ⟩:=choose_lt (P:=P) (q:=.extern "which waiting goroutine is the partner" ws.length) (w:=w.at d1) OD fun _ t=>FE OD t
  obtain⟨y,hy,hyb⟩:∃ y,y∈partners gs r (!c.send.isSome)/\ws.getD b .closed = .partner y.1 y.2:=by
   have hm:ws.getD b .closed∈ws:=by
    rw[List.getD_eq_getElem?_getD,List.getElem?_eq_getElem hb];exact List.getElem_mem hb
   rw[h4] at hm;obtain⟨y,hy,hyb⟩:=List.mem_map.1 hm;exact⟨y,hy,by rw[h4];exact hyb.symm⟩
  obtain⟨h,hk⟩:=y;dsimp only at hyb;obtain⟨tm,hc⟩:=id h3;have hpick:Sem.run P (do
       let a <-choose (Question.select ready.length)
       let b <-choose (Question.extern "which waiting goroutine is the partner" (ready.getD a (0,default,[])).2.snd.length)
       pure ((ready.getD a (0,default,[])).fst,(ready.getD a (0,default,[])).2.fst,(ready.getD a (0,default,[])).2.snd.getD b Way.closed)) w = .ok (k,c,.partner h hk) (w.at d2):=by
   rw[Sem.run_bind,GN];simp only[Result.andThen_ok,hx];rw[Sem.run_bind,GQ];simp only[Result.andThen_ok,hyb];rfl
  refine⟨k,c,r,s,h,hk,d2,h1,h2,h3,hy,?_⟩;simp only[hne,Bool.false_eq_true,if_false,hpick,h2];have hc':(w.at d2).heap[r]? = some (.chan 0 #[] false s s tm):=hc;cases hs:c.send with
  | some v=>
   left;refine⟨v,rfl,?_⟩;simp only[hc',Ba hc'];rfl
  | none=>
   right;refine⟨rfl,?_⟩;simp only[hc',Ba hc'];rfl
end Px
namespace Px
open Go Go.Conc
def ph:Goroutine:={ (default:Goroutine) with status:=.finished }
theorem ql {P:Program} {gs:Array Goroutine} {i:Nat} {g g':Goroutine} {dz:Array CommCase} {shape:CommShape} {w w':World} {sl:Option (Nat×Nat)} (hi:gs[i]? = some g) (h:stepG P (i==0) g w = .comm g' dz true shape w' #[]) :
  runT P (crowd gs w sl) i=communicate P { timers:=#[],alone:=none,slice:=sl } (gs.setIfInBounds i ph) i g' dz true shape w':=by
 obtain⟨hlt,rfl⟩:=Array.getElem?_eq_some_iff.1 hi;have hsw:=swapAt_of_lt hlt { (default:Goroutine) with status:=.finished };show runT P { world:=w,gs:=gs,rest:={ timers:=#[],alone:=none,slice:=sl } } i=_;unfold runT;have e:gs.setIfInBounds i ph=gs.set i ph:=by simp[Array.setIfInBounds,hlt]
 simp only[hsw,h,e,GStep.es,MemOp.ofEvents,Array.isEmpty_empty,if_true,Array.empty_append];rfl
theorem get_set_same {gs:Array Goroutine} {i:Nat} (h:i<gs.size) (x:Goroutine):(gs.setIfInBounds i x)[i]? = some x:=by simp[h]
theorem aV {gs:Array Goroutine} {i j:Nat} (h:i≠j) (x:Goroutine):(gs.setIfInBounds i x)[j]? = gs[j]?:=Array.getElem?_setIfInBounds_ne h
theorem set_set {gs:Array Goroutine} {i:Nat} (x y:Goroutine):(gs.setIfInBounds i x).setIfInBounds i y=gs.setIfInBounds i y:=by
 apply Array.ext_getElem?;intro j;by_cases hj:i=j
 ·subst hj;by_cases hi:i<gs.size
  ·rw[get_set_same (by simpa using hi),get_set_same hi]
  ·simp[hi]
 ·rw[aV hj,aV hj,aV hj]
theorem oF {P:Program} {gs:Array Goroutine} {i h k:Nat} {v:Value} {g:Goroutine} {cs:Array CommCase} {sh:CommShape} (_:h≠i) (hg:gs[h]? = some g) (ho:g.offers=some (cs,sh)) (x:Goroutine) :
  (finishPartner P (gs.setIfInBounds i ph) h k v).setIfInBounds i x=(gs.setIfInBounds h (served g (commResult cs sh k v (((cs[k]?).map (·.send.isNone)).getD false)))).setIfInBounds i x:=by
 apply Array.ext_getElem?;intro j;by_cases hj:i=j
 ·subst hj;by_cases hi:i<gs.size
  ·rw[get_set_same (by simpa [finishPartner] using hi),get_set_same (by simpa using hi)]
  ·simp[finishPartner,hi]
 ·rw[aV hj,aV hj];unfold finishPartner;rw[Array.getElem?_modify];by_cases hh:h=j
  ·subst hh;have hlt:=(Array.getElem?_eq_some_iff.1 hg).1;rw[if_pos rfl,aV hj,hg,get_set_same hlt];simp only[Option.map_some,ho];rfl
  ·rw[if_neg hh,aV hj,aV hh]
theorem sN {w:World} {h:Goroutine} {cs:Array CommCase} {sh:CommShape} (hs:h.status = .blocked) (ho:h.offers=some (cs,sh)) (hc:∀ c,c∈cs->c.chan = .chan none\/∃ r s,c.chan = .chan (some r)/\iJ w r s):h.again w=h:=by
 obtain⟨fr,cl,st,dy,off⟩:=h;dsimp only at ho hs;subst ho hs;unfold Goroutine.again;have:(cs.any fun c=>match c.chan with | .chan (some r)=>(w.heap[r]? matches some (.chan _ _ true ..)) | _=>false)=false:=by
  rw[Array.any_eq_false];intro k hk;rcases hc cs[k] (Array.getElem_mem hk) with h | ⟨r,s,h,tm,hr⟩
  ·simp[h]
  ·simp[h,hr]
 dsimp only
 rw[if_neg (by rw[Bool.not_eq_true];exact this)]
theorem gT {w:World} {h:Goroutine} (hs:h.status = .running\/h.status = .finished):h.again w=h:=by
 obtain⟨fr,cl,st,dy,off⟩:=h;rcases hs with hs | hs<;>(dsimp only at hs;subst hs;rfl)
end Px
