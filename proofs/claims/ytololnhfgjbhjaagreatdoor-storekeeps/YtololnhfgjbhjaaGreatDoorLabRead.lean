import Derived.Shelf.RegionOpen
import Derived.Test.YtololnhfgjbhjaaGreatDoorLabCutGroup
import Derived.OwnWalkIn
import Derived.LoopNIn
import Derived.LoopIn
import Derived.RangeFuncNested
import Derived.RangeFuncBound
set_option maxRecDepth 100000
set_option maxHeartbeats 4000000
open Go.Proofs.Tryz
namespace Go.Proofs.YtololnhfgjbhjaaGreatDoor
open Go.RowKit
theorem č{p:Prop}(h:p):Go.RowKit.Hid p:=h
variable {P:Program}
def KY(P:Program)(gf:Nat)(lb:Array Value)(encs:Nat->Array Value)(m n:Nat)(w:World):Prop:=
 ∀(l:Nat) (J:Nat->World->Prop) (Jx:World->Prop) (W:World),Below w.heap.size w W ->
  (∀k A q,J k A->J k (World.drewN A q)) ->
  (∀k A,k<m->J k A->YieldAt Fence.wide 0 P l (encs k) A λe A'=>e = .returned (.bool true)/\J (k+1) A') ->
  (∀A,m<n->J m A->YieldAt Fence.wide 0 P l (encs m) A λe A'=>e = .returned (.bool false)/\Jx A') ->
  J 0 W ->
  CallsIn Fence.wide 0 P gf (#[.func (.yield l) #[] #[]]++lb) W λe W'=>(∃v,e = .returned v)/\((m=n/\J n W')\/(m<n/\Jx W'))
def aeS(R:World->Prop):Exit->Act->World->Prop
 | .normal,_,W=>R W
 | _,_,_=>False
def adH(R:World->Prop):Exit->Act->World->Prop
 | .ret,_,W=>R W
 | _,_,_=>False
theorem RD{g:Operand}{ps:Array Tmp}{assign body:Code}{Q:Exit->Act->World->Prop}{a:Act}{w:World}{gf:Nat}{lb:Array Value}
  (hg:a.eval g = .func (.func gf) #[] lb) (eg:∀args w,(callFunc gf args).run P w = .ok (.enter gf args) w)
  (m n:Nat) (encs:Nat->Array Value) (Β:∀k,(encs k).size=ps.size) (Ź:KY P gf lb encs m n w)
  (I:Nat->World->Prop) (Ix:World->Prop)
  (hIp:∀k A l o,w.heap.size<=l->l<=w.heap.size+1->I k A->I k (A.putObj l o)) (hId:∀k A q,I k A->I k (World.drewN A q))
  (hXp:∀A l o,w.heap.size<=l->l<=w.heap.size+1->Ix A->Ix (A.putObj l o))
  (h0:∀o1 o2,I 0 ((w.alloc o1).alloc o2)) (a₁:Nat->Act)
  (ŕ:∀(l k:Nat) (W:World) (K:Act->World->Prop),K (a₁ k) W ->
   assign.wpIn (Fence.wide.inRound l) 0 P (Exit.then K (λ_ _ _=>False)) { tmps:=(ps.zip (encs k)).foldl (λt (p,v)=>t.setIfInBounds p v) a.tmps,defers:=[] } W)
  (hbody:∀(l k:Nat) (W:World),k<m->I k W->w.heap.size+1<W.heap.size ->
   body.wpIn (Fence.wide.inRound l) 0 P (aeS λW'=>I (k+1) W'/\W'.heap[w.heap.size]? = W.heap[w.heap.size]? /\ W'.heap[w.heap.size+1]? = W.heap[w.heap.size+1]?) (a₁ k) W)
  (ç:∀(l:Nat) (W:World),m<n->I m W->w.heap.size+1<W.heap.size ->
   body.wpIn (Fence.wide.inRound l) 0 P (adH λW'=>Ix W'/\W'.heap[w.heap.size]? = W.heap[w.heap.size]? /\ W'.heap[w.heap.size+1]? = W.heap[w.heap.size+1]?) (a₁ m) W)
  (hdone:∀(W:World),m=n->I n W->W.heap[w.heap.size]? = some (.deferred (some []))->Q .normal { a with defers:={ target:=.collected w.heap.size,args:=#[] }::a.defers } W)
  (hstop:∀(W:World),m<n->Ix W->W.heap[w.heap.size]? = some (.deferred (some []))->Code.ret.wp P Q { a with defers:={ target:=.collected w.heap.size,args:=#[] }::a.defers } W) :
  (Code.rangeFunc g ps assign body).wp P Q a w:=by
 refine (wpIn_wide (n:=0)).1 (wpIn_rangeFunc ?_);intro fn Ϲ;obtain⟨rec,ê⟩:∃rec:LoopState->Option Code->Loop,rec=λst pe=>{ state:=st,pending:=pe,fn,tmps:=a.tmps,params:=ps,assign,body,defers:=w.heap.size }:=⟨_,rfl⟩
 obtain⟨W1,á⟩:∃W1,W1=(w.alloc (.deferred (some []))).alloc (.loop (rec .ready none)):=⟨_,rfl⟩;have hL1:W1.heap[w.heap.size+1]? = some (.loop (rec .ready none)):=by
  rw[á];have:=World.alloc_heap_new (w.alloc (.deferred (some []))) (.loop (rec .ready none));rwa [World.size_alloc] at this
 have ũ:W1.heap[w.heap.size]? = some (.deferred (some [])):=by
  rw[á];exact (Below.heap_alloc _ _ _ (by simp)).trans (World.alloc_heap_new w _)
 have Ϗ:Below w.heap.size w W1:=by rw[á];exact ((Below.refl _ w).alloc (Nat.le_refl _) _).alloc (by simp) _
 have hi1:I 0 W1:=by rw[á];exact h0 _ _
 refine⟨w.heap.size+1,[{ target:=.collected w.heap.size,args:=#[] }],W1,{ target:=.fn (.func gf) lb,args:=#[.func (.yield (w.heap.size+1)) #[] #[]] },W1,gf,
  #[.func (.yield (w.heap.size+1)) #[] #[]]++lb,W1,?_,?_,?_,?_,λh=>by simp[Fence.wide] at h,?_⟩
 ·rw[á,ê];exact run_enterLoop_outer _ _ _ _ _
 ·simp only[resolve,hg];simp[go_sem]
 ·intro f' _;trivial
 ·simp[invoke,go_sem,eg]
 ·refine CallsIn.mono (Ź (w.heap.size+1)
   (λk W=>I k W/\W.heap[w.heap.size+1]? = some (.loop (rec .ready none))/\W.heap[w.heap.size]? = some (.deferred (some [])))
   (λW=>Ix W/\W.heap[w.heap.size+1]? = some (.loop (rec .done (some .ret)))/\W.heap[w.heap.size]? = some (.deferred (some [])))
   W1 Ϗ ?_ ?_ ?_ ⟨hi1,hL1,ũ⟩) ?_
  ·rintro k A q ⟨hi,hl,hd⟩;exact⟨hId k A q hi,hl,hd⟩
  ·rintro k A hk ⟨hi,hl,hd⟩;have ħ:=(Array.getElem?_eq_some_iff.1 hl).1;have hy:=run_yield (P:=P) (args:=encs k) hl (by rw[ê];exact Β k);rw[ê] at hy;refine⟨fn,_,assign,body,hy,roundIn_of_wpIn Ϲ (ŕ _ k A _ ?_)⟩;clear hy;refine⟨_,run_beginRound hl (by rw[ê]),?_⟩;obtain⟨Ab,xB⟩:∃Ab,Ab=A.putObj (w.heap.size+1) (.loop { rec .ready none with state:=.busy }):=⟨_,rfl⟩;rw[<-xB];have hsb:Ab.heap.size=A.heap.size:=by rw[xB];simp
   have Ú:Ab.heap[w.heap.size+1]? = some (.loop { rec .ready none with state:=.busy }):=by rw[xB];exact World.putObj_heap_same (by omega)
   have hdb:Ab.heap[w.heap.size]? = some (.deferred (some [])):=by rw[xB,World.putObj_heap_other (by omega)];exact hd
   have hib:I k Ab:=by rw[xB];exact hIp k A _ _ (by omega) (by omega) hi
   refine wpIn_mono (hbody _ k Ab hk hib (by omega)) ?_;rintro e a3 W3 hp;cases e with
   | normal=>
    obtain⟨hi3,hd3,hl3⟩:=hp;have OL:=hl3.trans Ú;have alg:=(Array.getElem?_eq_some_iff.1 OL).1;refine⟨_,_,run_endRound (P:=P) none OL,rfl,hIp _ _ _ _ (by omega) (by omega) hi3,?_,?_⟩
    ·rw[World.putObj_heap_same (by omega),ê];rfl
    ·rw[World.putObj_heap_other (by omega)];exact hd3.trans hdb
   | ret=>exact hp.elim
   | exit id=>exact hp.elim
   | goto t=>exact hp.elim
   | panic ch=>exact hp.elim
   | outgrown=>exact hp.elim
  ·rintro A Û ⟨hi,hl,hd⟩;have ħ:=(Array.getElem?_eq_some_iff.1 hl).1;have hy:=run_yield (P:=P) (args:=encs m) hl (by rw[ê];exact Β m);rw[ê] at hy;refine⟨fn,_,assign,body,hy,roundIn_of_wpIn Ϲ (ŕ _ m A _ ?_)⟩;clear hy;refine⟨_,run_beginRound hl (by rw[ê]),?_⟩;obtain⟨Ab,xB⟩:∃Ab,Ab=A.putObj (w.heap.size+1) (.loop { rec .ready none with state:=.busy }):=⟨_,rfl⟩;rw[<-xB];have hsb:Ab.heap.size=A.heap.size:=by rw[xB];simp
   have Ú:Ab.heap[w.heap.size+1]? = some (.loop { rec .ready none with state:=.busy }):=by rw[xB];exact World.putObj_heap_same (by omega)
   have hdb:Ab.heap[w.heap.size]? = some (.deferred (some [])):=by rw[xB,World.putObj_heap_other (by omega)];exact hd
   have hib:I m Ab:=by rw[xB];exact hIp m A _ _ (by omega) (by omega) hi
   refine wpIn_mono (ç _ Ab Û hib (by omega)) ?_;rintro e a3 W3 hp;cases e with
   | ret=>
    obtain⟨hi3,hd3,hl3⟩:=hp;have OL:=hl3.trans Ú;have alg:=(Array.getElem?_eq_some_iff.1 OL).1;refine⟨_,_,run_endRound (P:=P) (some .ret) OL,rfl,hXp _ _ _ (by omega) (by omega) hi3,?_,?_⟩
    ·rw[World.putObj_heap_same (by omega),ê];rfl
    ·rw[World.putObj_heap_other (by omega)];exact hd3.trans hdb
   | normal=>exact hp.elim
   | exit id=>exact hp.elim
   | goto t=>exact hp.elim
   | panic ch=>exact hp.elim
   | outgrown=>exact hp.elim
  ·rintro e W2 ⟨⟨v,rfl⟩,h⟩;rcases h with⟨Û,hi,hl,hd⟩|⟨Û,hi,hl,hd⟩
   ·refine⟨none,_,by have:=run_endLoop (P:=P) hl (by rw[ê];simp);rw[ê] at this;exact this,hdone _ Û (hIp _ _ _ _ (by omega) (by omega) hi) ((World.putObj_heap_other (by omega)).trans hd)⟩
   ·refine⟨some .ret,_,by have:=run_endLoop (P:=P) hl (by rw[ê];simp);rw[ê] at this;exact this,?_⟩;exact wpIn_wide.2 (hstop _ Û (hXp _ _ _ (by omega) (by omega) hi) ((World.putObj_heap_other (by omega)).trans hd))
open Go.Shelf aG
attribute [local go_sem] Oper.semAt_some
def Uu:Value->Nat
 | .string s=>s.size
 | _=>0
def Uv:Value->Nat
 | .bool true=>1
 | _=>0
theorem Uw(s:ByteArray)(w:World):
  Calls prog 89 #[.string s] w λe w'=>e = .returned (.func (.func 124) #[] #[.pointer (some ⟨w.heap.size,0,none⟩)])/\w'=w.alloc (.cells #[.string s] 9):=by
 go_enter func89,ntmps89;go_wp2;go_ret;exact⟨rfl,rfl⟩
theorem NM(Bn:Nat)(s:ByteArray)(w:World)(hs:s.size<=1000000)(m n:Nat)(hm:m<=n)(Ð:1<=n)(Ň:∀i,i<n->oz s.data.toList i=decide (i+1<n))
  (Db:w.cell? ⟨Bn,0,none⟩=some (.string s)) :
  KY prog 124 #[.pointer (some ⟨Bn,0,none⟩)] (λk=>#[.string (txt (lH s.data.toList k))]) m n w:=by
 intro l J Jx W Ϝ hJd Xd hJx hJ0;have hBn:Bn<w.heap.size:=World.block_lt_of_cell? w ⟨Bn,0,none⟩ Db;have Ux:W.cell? ⟨Bn,0,none⟩=some (.string s):=(Ϝ.cell (p:=⟨Bn,0,none⟩) hBn).trans Db;have ϟ:∀k,(txt (iC s.data.toList k)).size<=1000000:=λk=>by
  rw[gG];have h1:=K3 s.data.toList k;have h2:s.data.toList.length=s.size:=Array.length_toList;omega
 have eH:=č ϟ;have HJd:=č hJd;have HJy:=č Xd;have HJx:=č hJx;have HJ0:=č hJ0;have HM:=č Ň;clear hJ0 hJd Xd hJx Ň ϟ Db Ϝ;refine callsIn_of_wp func124 rfl trivial ?_ rfl;simp only[ntmps124,List.size_toArray,List.length_cons,List.length_nil,Nat.reduceAdd,Nat.reduceSub,Array.replicate_succ,Array.replicate_zero,List.push_toArray,List.append_toArray,List.nil_append,List.cons_append];gi_wp2;gi_loopw [3,4,5] (λr f _ wr=>∃k:Nat,k<=m/\r = .string (txt (iC s.data.toList k))/\f = .bool (decide (k<n))/\J k wr) (λr f _ _=>Uu r+Uv f);case atStart=>exact⟨0,Nat.zero_le _,rfl,by simp;omega,HJ0.out⟩
 case round=>
  obtain⟨k,Ď,rfl,rfl,hJ⟩:=hrel;have HJ:=č hJ;clear hJ HJ0;by_cases Ϧ:k<n
  ·rw[show decide (k<n)=true from decide_eq_true Ϧ];have hcut:=λw0=>adI (txt (iC s.data.toList k)) w0 (eH.out k)
   have hp:txt (aI 44 (txt (iC s.data.toList k)).data.toList).1=txt (lH s.data.toList k):=rfl;have hr:txt (aI 44 (txt (iC s.data.toList k)).data.toList).2.1=txt (iC s.data.toList (k+1)):=rfl;have hf:(aI 44 (txt (iC s.data.toList k)).data.toList).2.2=oz s.data.toList k:=rfl;rw[hp,hr,hf,HM.out k Ϧ] at hcut;have OQ:=č hcut;have ab0:(iC s.data.toList (k+1)).length+(if k+1<n then 1 else 0)<(iC s.data.toList k).length+1:=by
    have hc:=oV 44 (iC s.data.toList k);have İ:=HM.out k Ϧ;by_cases ϒ:k+1<n
    ·rw[decide_eq_true ϒ] at İ;have:=hc.2.2 İ;rw[if_pos ϒ];simp only[iC];omega
    ·rw[decide_eq_false ϒ] at İ;have hz:iC s.data.toList (k+1) = []:=LY 44 _ İ;rw[if_neg ϒ,hz];simp
   have aiB:=č ab0;clear hcut hp hr hf ab0;have hrs:(txt (iC s.data.toList k)).size=(iC s.data.toList k).length:=gG _;generalize txt (iC s.data.toList k)=r0 at *;have L6:=č hrs;clear hrs;gi_wp2_with fail;refine⟨trivial,rfl,?_⟩;refine CallsIn.mono (callsIn_wide.2 (OQ.out _)) ?_;rintro e w1 ⟨rfl,q,rfl⟩;have OT:=HJd.out k wr q HJ.out;by_cases ϗ:k<m
   ·obtain⟨fn,tmps,assign,body,hy,hR⟩:=HJy.out k _ ϗ OT;have HR:=č hR;clear hR OT;gi_wp2;refine⟨rfl,?_⟩;refine RoundIn.mono HR.out ?_;rintro e W3 ⟨rfl,hJ3⟩;have HJ3:=č hJ3;clear hJ3 hy;gi_wp2;go_roundw;case rel=>exact⟨k+1,by omega,rfl,rfl,HJ3.out⟩
    case measure=>
     have h1:=aiB.out;have h2:=L6.out;have h3:(txt (iC s.data.toList (k+1))).size=(iC s.data.toList (k+1)).length:=gG _;by_cases ϒ:k+1<n
     ·rw[if_pos ϒ] at h1;simp[Uu,Uv,ϒ];omega
     ·rw[if_neg ϒ] at h1;simp[Uu,Uv,ϒ];omega
   ·have alh:k=m:=by omega
    subst alh;obtain⟨fn,tmps,assign,body,hy,hR⟩:=HJx.out _ Ϧ OT;have HR:=č hR;clear hR OT;gi_wp2;refine⟨rfl,?_⟩;refine RoundIn.mono HR.out ?_;rintro e W3 ⟨rfl,hJ3⟩;have HJ3:=č hJ3;clear hJ3 hy;gi_wp2;exact bodyPost_ret (v:=.tuple #[]) (results_none rfl _ _ _) rfl ⟨⟨_,rfl⟩,.inr ⟨Ϧ,HJ3.out⟩⟩
  ·have h1:k=n:=by omega
   have h2:m=n:=by omega
   rw[show decide (k<n)=false from decide_eq_false Ϧ];subst h1;gi_wp2;go_end0;exact⟨⟨_,rfl⟩,.inl ⟨h2,HJ.out⟩⟩
attribute [local go_sem] Oper.semAt_some
structure Jb(s0:Nat)(w:World)(l:List UInt8)(k:Nat)(W:World):Prop where
 aH:Below s0 w W
 res:W.heap[s0]? = some (.cells #[.slice none 0 0] 119 (0,0))
 err:W.heap[s0+1]? = some (.cells #[.nilIface] 26 (0,0))
 row:∃v,W.heap[s0+2]? = some (.cells #[v] 119 (0,0))/\W.ownsRow (s0+6) 123 2 v k (iH (iL l k))
structure Ob(s0:Nat)(w:World)(a:Addr)(W:World):Prop where
 aH:Below s0 w W
 res:W.heap[s0]? = some (.cells #[.slice none 0 0] 119 (0,0))
 err:W.heap[s0+1]? = some (.cells #[.iface 352 (.pointer (some a))] 26 (0,0))
theorem SE{w:World}{base:Nat}{e:TypeId}{sz:Nat}{v:Value}{n:Nat}{xs:List Value}(h:w.ownsRow base e sz v n xs)(b:Nat)(hb:b<base)(o:Obj):(w.putObj b o).ownsRow base e sz v n xs:=by
 obtain⟨h1,h2⟩:=h;refine⟨h1,?_⟩;rcases h2 with h2|⟨g,cap,cur,hv,hg,hh,t⟩
 ·exact .inl h2
 ·exact .inr ⟨g,cap,cur,hv,hg,by rw[World.putObj_heap_other (by omega)];exact hh,t⟩
theorem uH{s0:Nat}{w W:World}(h:Below s0 w W)(b:Nat)(hb:s0<=b)(o:Obj):Below s0 w (W.putObj b o):=
 h.trans ⟨rfl,rfl,rfl,by simp,λk hk=>World.putObj_heap_other (by omega)⟩
theorem Jb.put{s0:Nat}{w:World}{l:List UInt8}{k:Nat}{W:World}(h:Jb s0 w l k W)(b:Nat)(o:Obj)(h1:s0+4<=b)(h2:b<=s0+5):Jb s0 w l k (W.putObj b o):=by
 obtain⟨hb,hr,he,v,hv,ho⟩:=h;exact⟨uH hb b (by omega) o,(World.putObj_heap_other (by omega)).trans hr,(World.putObj_heap_other (by omega)).trans he,v,(World.putObj_heap_other (by omega)).trans hv,SE ho b (by omega) o⟩
theorem Jb.drewN{s0:Nat}{w:World}{l:List UInt8}{k:Nat}{W:World}(h:Jb s0 w l k W)(q:Nat):Jb s0 w l k (W.drewN q):=
 ⟨below_draws h.aH q,h.res,h.err,h.row⟩
theorem Ob.put{s0:Nat}{w:World}{a:Addr}{W:World}(h:Ob s0 w a W)(b:Nat)(o:Obj)(h1:s0+4<=b):Ob s0 w a (W.putObj b o):=
 ⟨uH h.aH b (by omega) o,(World.putObj_heap_other (by omega)).trans h.res,(World.putObj_heap_other (by omega)).trans h.err⟩
theorem yP{X:World}{s0:Nat}{a b:Value}(h0:X.heap[s0]? = some (.cells #[a] 119 (0,0)))(h1:X.heap[s0+1]? = some (.cells #[b] 26 (0,0)))(o:Obj):
  (X.putObj (s0+4) o).cell? ⟨s0,0,none⟩=some a/\(X.putObj (s0+4) o).cell? ⟨s0+1,0,none⟩=some b:=by
 have e0:(X.putObj (s0+4) o).heap[s0]? = some (.cells #[a] 119 (0,0)):=(World.putObj_heap_other (by omega)).trans h0;have e1:(X.putObj (s0+4) o).heap[s0+1]? = some (.cells #[b] 26 (0,0)):=(World.putObj_heap_other (by omega)).trans h1;simp only[World.cell?,e0,e1];exact⟨rfl,rfl⟩
theorem E5{X:World}{s0:Nat}{a b a' b':Value}(h0:X.heap[s0]? = some (.cells #[a] 119 (0,0)))(h1:X.heap[s0+1]? = some (.cells #[b] 26 (0,0))):
  ((X.setCell ⟨s0,0,none⟩ a').setCell ⟨s0+1,0,none⟩ b').heap[s0]? = some (.cells #[a'] 119 (0,0))/\((X.setCell ⟨s0,0,none⟩ a').setCell ⟨s0+1,0,none⟩ b').heap[s0+1]? = some (.cells #[b'] 26 (0,0)) /\
  (∀k,k≠s0->k≠s0+1->((X.setCell ⟨s0,0,none⟩ a').setCell ⟨s0+1,0,none⟩ b').heap[k]? = X.heap[k]?):=by
 refine⟨?_,?_,λk k0 k1=>?_⟩
 ·rw[Below.heap_setCell _ _ _ _ (by show s0≠s0+1;omega),eu h0 0 _];rfl
 ·rw[eu ((Below.heap_setCell _ _ _ _ (by show s0+1≠s0;omega)).trans h1) 0 _];rfl
 ·rw[Below.heap_setCell _ _ _ _ k1,Below.heap_setCell _ _ _ _ k0]
theorem OU{X Y:World}{s0 b i:Nat}(o:Obj)(hb:s0+4<b)(h:∀k,k≠s0->k≠s0+1->Y.heap[k]? = X.heap[k]?):(Y.putObj (s0+4) o).cell? ⟨b,i,none⟩=X.cell? ⟨b,i,none⟩:=by
 have e:(Y.putObj (s0+4) o).heap[b]? = X.heap[b]?:=(World.putObj_heap_other (by omega)).trans (h b (by omega) (by omega));simp only[World.cell?,e]
def Z0(w w':World)(l:List UInt8)(ea:Nat->Addr)(e:Ending):Prop:=
 Below w.heap.size w w'/\((scan l [] [] [] false=none/\e = .returned (.tuple #[.slice none 0 0,.iface 352 (.pointer (some (ea 0)))])) \/
  ∃out:List (List UInt8×List UInt8),scan l [] [] [] false=some out/\1<=out.length/\out.length<=l.length+1/\(∀p,p∈out->p.1.length<=l.length/\p.2.length<=l.length) /\
   ((6<out.length/\e = .returned (.tuple #[.slice none 0 0,.iface 352 (.pointer (some (ea 1)))])) \/
   (out.length<=6/\∃m,m<=out.length/\(∀i,i<m->kZ (nameAt out) (eY out) i=true)/\(m<out.length->kZ (nameAt out) (eY out) m=false) /\
    ((m=out.length/\∃v,e = .returned (.tuple #[v,.nilIface])/\w'.ownsRow w.heap.size 123 2 v out.length (iH out)) \/
     (m<out.length/\∃pb:Nat,e = .returned (.tuple #[.slice none 0 0,.iface 126 (.pointer (some ⟨pb,0,none⟩))])/\w.heap.size<=pb/\w'.cell? ⟨pb,0,none⟩=some (.int .i64 (m:Int))/\w'.cell? ⟨pb,1,none⟩=some (.iface 352 (.pointer (some (if (isName (nameAt out m)&&isWord (eY out m))=true then ea 2 else ea 3)))))))))
theorem Xe(s:ByteArray)(w:World)(hs:s.size<=100000)(ea:Nat->Addr)(e0:w.cell? ⟨8,0,none⟩=some (.iface 352 (.pointer (some (ea 0)))))(e1:w.cell? ⟨0,0,none⟩=some (.iface 352 (.pointer (some (ea 1)))))
  (e2:w.cell? ⟨3,0,none⟩=some (.iface 352 (.pointer (some (ea 2))))) (e3:w.cell? ⟨6,0,none⟩=some (.iface 352 (.pointer (some (ea 3))))) :
  Calls prog 58 #[.string s] w λe w'=>Z0 w w' s.data.toList ea e:=by
 obtain⟨l,hl⟩:∃l,l=s.data.toList:=⟨_,rfl⟩;have Ė:l.length=s.size:=by rw[hl];exact Array.length_toList
 obtain⟨n0,Ê,hmt,hmf⟩:=Xa l;obtain⟨m,hm,hhas,ab1⟩:=zo (EZ l) (n0+1);have Ň:∀i,i<n0+1->oz l i=decide (i+1<n0+1):=λi hi=>by
  rcases Nat.lt_or_ge i n0 with h|h
  ·rw[hmt i h];simp;omega
  ·have:i=n0:=by omega
   subst this;rw[hmf];simp
 have HL:=č hl;have HMT:=č hmt;have Xf:=č hmf;have aiC:=č Ň;have Uy:=č hhas;have ab2:=č ab1;have g0:8<w.heap.size:=World.block_lt_of_cell? w ⟨8,0,none⟩ e0;have g1:0<w.heap.size:=World.block_lt_of_cell? w ⟨0,0,none⟩ e1;have g2:3<w.heap.size:=World.block_lt_of_cell? w ⟨3,0,none⟩ e2;have g3:6<w.heap.size:=World.block_lt_of_cell? w ⟨6,0,none⟩ e3;have HE:Hid (_/\_/\_/\_):=⟨e0,e1,e2,e3⟩;have E8:Hid _:=λw0=>Uw s w0
 rw[<-hl];clear hl hmt hmf Ň hhas ab1 e0 e1 e2 e3;refine callsIn_wide.1 (callsIn_of_wp_marks (n:=0) func58 rfl trivial (wpIn_wide.2 ?_));simp only[ntmps58,List.size_toArray,List.length_cons,List.length_nil,Nat.reduceAdd,Nat.reduceSub,Array.replicate_succ,Array.replicate_zero,List.push_toArray,List.append_toArray,List.nil_append,List.cons_append];go_wp2_with fail;refine Calls.mono (E8.out _) ?_;rintro e w1 ⟨rfl,rfl⟩;go_wp2;obtain⟨W0,ľ⟩:∃W0,W0=(((w.alloc (.cells #[.slice none 0 0] 119)).alloc (.cells #[.nilIface] 26)).alloc (.cells #[.slice none 0 0] 119)).alloc (.cells #[.string s] 9):=⟨_,rfl⟩;have Ć:W0.heap.size=w.heap.size+4:=by rw[ľ];simp
 have Þ:Below w.heap.size w W0:=by rw[ľ];exact ((((Below.refl _ _).alloc (Nat.le_refl _) _).alloc (by simp) _).alloc (by simp;omega) _).alloc (by simp;omega) _
 have Ü:W0.heap[w.heap.size]? = some (.cells #[.slice none 0 0] 119 (0,0)):=by
  rw[ľ,Below.heap_alloc _ _ _ (by simp;omega),Below.heap_alloc _ _ _ (by simp;omega),Below.heap_alloc _ _ _ (by simp)];exact heap_alloc_new _ _
 have Ϡ:W0.heap[w.heap.size+1]? = some (.cells #[.nilIface] 26 (0,0)):=by
  rw[ľ,Below.heap_alloc _ _ _ (by simp),Below.heap_alloc _ _ _ (by simp)];have:=heap_alloc_new (w.alloc (.cells #[.slice none 0 0] 119)) (.cells #[.nilIface] 26);simpa using this
 have Ϻ:W0.heap[w.heap.size+2]? = some (.cells #[.slice none 0 0] 119 (0,0)):=by
  rw[ľ,Below.heap_alloc _ _ _ (by simp)];have:=heap_alloc_new ((w.alloc (.cells #[.slice none 0 0] 119)).alloc (.cells #[.nilIface] 26)) (.cells #[.slice none 0 0] 119);simpa using this
 have Ŀ:W0.heap[w.heap.size+3]? = some (.cells #[.string s] 9 (0,0)):=by
  rw[ľ];have:=heap_alloc_new (((w.alloc (.cells #[.slice none 0 0] 119)).alloc (.cells #[.nilIface] 26)).alloc (.cells #[.slice none 0 0] 119)) (.cells #[.string s] 9);simpa using this
 rw[<-ľ];clear ľ;have BQ:KY prog 124 #[.pointer (some ⟨w.heap.size+3,0,none⟩)] (λk=>#[.string (txt (lH l k))]) m (n0+1) W0:=by
  rw[HL.out];refine NM (w.heap.size+3) s W0 (by omega) m (n0+1) hm (by omega) ?_ (by simp[World.cell?,Ŀ]);rw[<-HL.out];exact aiC.out
 refine RD (gf:=124) (lb:=#[.pointer (some ⟨w.heap.size+3,0,none⟩)]) rfl (enters_of func124 (by kernel_rfl) rfl) m (n0+1) (λk=>#[.string (txt (lH l k))]) (λ_=>rfl) BQ
  (Jb w.heap.size w l) (Ob w.heap.size w (ea 0)) ?ali ?aiD ?alj ?start
  (λk=>{ tmps:=#[.string s,undef,.pointer (some ⟨w.heap.size,0,none⟩),.pointer (some ⟨w.heap.size+1,0,none⟩),.pointer (some ⟨w.heap.size+2,0,none⟩),.string (txt (lH l k)),undef,undef,undef,undef,.string s,.func (.func 124) #[] #[.pointer (some ⟨w.heap.size+3,0,none⟩)],.string (txt (lH l k)),undef,undef,undef,undef,undef,undef,undef,undef,undef,undef,undef,undef,undef,undef,undef,undef,undef,undef,undef,undef,undef],defers:=[] })
  ?assign ?body ?last ?done ?stop
 case ali=>intro k A b o h1 h2 h;exact h.put b o (by omega) (by omega)
 case aiD=>intro k A q h;exact h.drewN q
 case alj=>intro A b o h1 _ h;exact h.put b o (by omega)
 case start=>
  intro o1 o2;refine⟨(Þ.alloc (by omega) _).alloc (by simp;omega) _,?_,?_,.slice none 0 0,?_,?_⟩
  ·rw[Below.heap_alloc _ _ _ (by simp;omega),Below.heap_alloc _ _ _ (by omega)];exact Ü
  ·rw[Below.heap_alloc _ _ _ (by simp;omega),Below.heap_alloc _ _ _ (by omega)];exact Ϡ
  ·rw[Below.heap_alloc _ _ _ (by simp;omega),Below.heap_alloc _ _ _ (by omega)];exact Ϻ
  ·exact⟨by simp[iH,iL],.inl ⟨rfl,rfl⟩⟩
 case assign=>
  intro lp k W K hK;gi_wp2;exact hK
 case body=>
  intro lp k W Ď ş ϗ;obtain⟨È,Ą,E9,v,hv,ό⟩:=ş;have hcut:=λw0=>KZ (txt (lH l k)) w0 (by rw[gG];have:=GN l k;omega)
  have hh:=Uy.out k Ď;have hf:(aI 61 (txt (lH l k)).data.toList).2.2=EZ l k:=rfl;have hn:txt (aI 61 (txt (lH l k)).data.toList).1=txt (sD l k).1:=rfl;have hvv:txt (aI 61 (txt (lH l k)).data.toList).2.1=txt (sD l k).2:=rfl;rw[hf,hn,hvv,hh] at hcut;have OQ:=č hcut;clear hcut hf hn hvv hh Ü Ϡ Ϻ Ŀ BQ;gi_wp2_with fail;refine⟨trivial,rfl,?_⟩;refine CallsIn.mono (CallsIn.inRound lp (callsIn_wide.2 (OQ.out _))) ?_;rintro e w2 ⟨rfl,q,hq⟩;have HW2:Hid (w2.heap=W.heap/\Below w.heap.size w w2):=by rw[hq];exact⟨rfl,below_draws È q⟩
  have Ū:w2.heap[w.heap.size+2]? = some (.cells #[v] 119 (0,0)):=by rw[hq];exact hv
  have Å:w2.ownsRow (w.heap.size+6) 123 2 v k (iH (iL l k)):=by rw[hq];exact ό
  have HS2:Hid (w2.heap.size=W.heap.size):=by rw[hq];exact Eq.refl W.heap.size
  clear hq;have c0:w2.cell? ⟨w.heap.size+2,0,none⟩=some v:=by simp[World.cell?,Ū]
  obtain⟨i0,hi,ğ,ė,Ě⟩:=info_parts Tryz.infoLabel;have HI:=č hi;clear hi;have qD:(w2.alloc (.cells #[.string (txt (sD l k).1),.string (txt (sD l k).2)] 123)).ownsRow (w.heap.size+6) 123 2 v k (iH (iL l k)):=Å.alloc _;gi_wp2_with (gi_at_builtin;refine wpListIn_append_own _ rfl _ _ 119 rfl (w.heap.size+6) 123 i0 (.agg #[.string ⟨#[]⟩,.string ⟨#[]⟩]) 2 32 underlying119 HI.out ğ ė Ě rfl (by decide) _ _ _ rfl qD ⟨w2.heap.size,0,none⟩ 1 1 [.string (txt (sD l k).1),.string (txt (sD l k).2)] rfl rfl (World.news_of_block (heap_alloc_new w2 _)) ?c2 ?c3 ?c4 ?c5 ?_);case c2=>first|exact⟨rfl,rfl⟩|(intro q hq;simp at hq;rcases hq with rfl|rfl<;>rfl)
  case c3=>unfold maxLen;omega
  case c4=>omega
  case c5=>have:=HS2.out;simp;omega
  intro v' w3 ï ϑ _;rw[NJ (iL l k) (sD l k),<-Bj] at ï;have hS2:=HS2.out;have oW:∀b,b<w.heap.size+6->w3.heap[b]? = W.heap[b]?:=λb hb=>by
   have h1:(w2.alloc (.cells #[.string (txt (sD l k).1),.string (txt (sD l k).2)] 123)).heap[b]? = W.heap[b]?:=by
    rw[Below.heap_alloc _ _ _ (by omega),HW2.out.1]
   rw[ϑ.block b (by simp;omega) ?_,h1];intro e;rcases Å.2 with⟨hv',_⟩|⟨g,cap,cur,hv',hgb,_⟩
   ·rw[hv'] at e;simp[Value.ownBlock] at e
   ·rw[hv'] at e;simp[Value.ownBlock] at e;omega
  have ab3:Below w.heap.size w w3:=by
   have h2:=HW2.out.2;refine⟨ϑ.os.trans h2.os,ϑ.tape.trans h2.tape,ϑ.output.trans h2.output,?_,λb hb=>?_⟩
   ·have h3:=ϑ.size;have h4:=h2.size;simp at h3;omega
   ·rw[oW b (by omega)];exact È.block b hb
  have Ŀ:w3.heap[w.heap.size+2]? = some (.cells #[v] 119 (0,0)):=(oW _ (by omega)).trans hv;have d0:w3.cell? ⟨w.heap.size+2,0,none⟩=some v:=by simp[World.cell?,Ŀ]
  have f0:w3.frozen? ⟨w.heap.size+2,0,none⟩=false:=by simp[World.frozen?,Ŀ]
  obtain⟨ao,n',cap,hv'⟩:∃ao n' cap,v' = .slice ao n' cap:=by
   rcases ï.2 with⟨hv',_⟩|⟨g,cap,cur,hv',_⟩
   ·exact⟨_,_,_,hv'⟩
   ·exact⟨_,_,_,hv'⟩
  have HV':=č hv';have Uz:=č oW;have aiE:=č ab3;have Dc:=č ï;have sI:Hid (_/\_):=⟨Ą,E9⟩;have HR3:=č Ŀ;clear oW ab3 ï ϑ Å qD Ą E9 hv ό c0 Ū È Ŀ;subst hv';gi_wp2;refine⟨⟨aiE.out.setCell (by simp) _,?_,?_,.slice ao n' cap,?_,?_⟩,?_,?_⟩
  ·rw[Below.heap_setCell _ _ _ _ (by show w.heap.size≠w.heap.size+2;omega),Uz.out _ (by omega)];exact sI.out.1
  ·rw[Below.heap_setCell _ _ _ _ (by show w.heap.size+1≠w.heap.size+2;omega),Uz.out _ (by omega)];exact sI.out.2
  ·rw[eu HR3.out 0 _];rfl
  ·exact CW Dc.out _ _ (by omega) _
  ·rw[Below.heap_setCell _ _ _ _ (by show w.heap.size+4≠w.heap.size+2;omega),Uz.out _ (by omega)]
  ·rw[Below.heap_setCell _ _ _ _ (by show w.heap.size+4+1≠w.heap.size+2;omega),Uz.out _ (by omega)]
 case last=>
  intro lp W Û ş ϗ;obtain⟨È,Ą,E9,v,hv,ό⟩:=ş;have hcut:=λw0=>KZ (txt (lH l m)) w0 (by rw[gG];have:=GN l m;omega)
  have hh:=ab2.out Û;have hf:(aI 61 (txt (lH l m)).data.toList).2.2=EZ l m:=rfl;have hn:txt (aI 61 (txt (lH l m)).data.toList).1=txt (sD l m).1:=rfl;have hvv:txt (aI 61 (txt (lH l m)).data.toList).2.1=txt (sD l m).2:=rfl;rw[hf,hn,hvv,hh] at hcut;have OQ:=č hcut;clear hcut hf hn hvv hh Ü Ϡ Ϻ Ŀ BQ hv ό;gi_wp2_with fail;refine⟨trivial,rfl,?_⟩;refine CallsIn.mono (CallsIn.inRound lp (callsIn_wide.2 (OQ.out _))) ?_;rintro e w2 ⟨rfl,q,hq⟩;have HW2:Hid (w2.heap=W.heap/\Below w.heap.size w w2):=by rw[hq];exact⟨rfl,below_draws È q⟩
  have hres2:w2.heap[w.heap.size]? = some (.cells #[.slice none 0 0] 119 (0,0)):=by rw[hq];exact Ą
  have Oc:w2.heap[w.heap.size+1]? = some (.cells #[.nilIface] 26 (0,0)):=by rw[hq];exact E9
  have ϓ:Below w.heap.size w w2:=HW2.out.2;have k0:w2.cell? ⟨w.heap.size,0,none⟩=some (.slice none 0 0):=by simp[World.cell?,hres2]
  have k1:w2.cell? ⟨w.heap.size+1,0,none⟩=some .nilIface:=by simp[World.cell?,Oc]
  have z0:w2.frozen? ⟨w.heap.size,0,none⟩=false:=by simp[World.frozen?,hres2]
  have z1:w2.frozen? ⟨w.heap.size+1,0,none⟩=false:=by simp[World.frozen?,Oc]
  have x0:w2.cell? ⟨8,0,none⟩=some (.iface 352 (.pointer (some (ea 0)))):=(ϓ.cell (p:=⟨8,0,none⟩) g0).trans HE.out.1;have HX:Hid (_/\_/\_):=⟨ϓ,hres2,Oc⟩;clear hq È Ą E9 ϓ hres2 Oc;have alk:prog.follows .mixedOrders=true:=by kernel_rfl
  have Ó:=HX.out.1.size;gi_wp2_with fail;gi_region_o;all_goals
   gi_wp2;have hX:=HX.out;refine⟨⟨(((hX.1.setCell (Nat.le_refl _) _).setCell (by simp) _).trans ⟨rfl,rfl,rfl,Nat.le_refl _,λ_ _=>rfl⟩),?_,?_⟩,?_,?_⟩
   ·show (World.setCell _ _ _).heap[_]? = _;rw[Below.heap_setCell _ _ _ _ (by show w.heap.size≠w.heap.size+1;omega),eu hX.2.1 0 _];rfl
   ·show (World.setCell _ _ _).heap[_]? = _;rw[eu ((Below.heap_setCell _ _ _ _ (by show w.heap.size+1≠w.heap.size;omega)).trans hX.2.2) 0 _];rfl
   ·show (World.setCell _ _ _).heap[_]? = _;rw[Below.heap_setCell _ _ _ _ (by show _≠w.heap.size+1;omega),Below.heap_setCell _ _ _ _ (by show _≠w.heap.size;omega),HW2.out.1]
   ·show (World.setCell _ _ _).heap[_]? = _;rw[Below.heap_setCell _ _ _ _ (by show _≠w.heap.size+1;omega),Below.heap_setCell _ _ _ _ (by show _≠w.heap.size;omega),HW2.out.1]
 case done=>
  intro W Û ş hK;obtain⟨È,Ą,E9,v,hv,ό⟩:=ş;have ň:(iL l (n0+1)).length=n0+1:=NK l (n0+1);have hown':W.ownsRow (w.heap.size+6) 123 2 v (iL l (n0+1)).length (iH (iL l (n0+1))):=by rw[ň];exact ό
  obtain⟨va,vc,rfl,hvc,Od⟩:=OI hown';have Xg:Hid (scan l [] [] [] false=some (iL l (n0+1))):=Xc l n0 (λi hi=>⟨HMT.out i hi,Uy.out i (by omega)⟩) (Uy.out n0 (by omega)) Xf.out;have qB:Hid (∀p,p∈iL l (n0+1)->p.1.length<=l.length/\p.2.length<=l.length):=λp hp=>by
   simp[iL] at hp;obtain⟨i,_,rfl⟩:=hp;exact WZ l i
  rw[ň] at Od hown' hvc;have ϟ:∀i,i<n0+1->(nameAt (iL l (n0+1)) i).size<=1000000/\(eY (iL l (n0+1)) i).size<=1000000:=λi hi=>by
   have e:(iL l (n0+1)).getD i ([],[])=sD l i:=by simp[iL,hi]
   unfold nameAt eY;rw[e,gG,gG];have:=WZ l i;omega
  have hE:=HE.out;have y1:W.cell? ⟨0,0,none⟩=some (.iface 352 (.pointer (some (ea 1)))):=(È.cell (p:=⟨0,0,none⟩) g1).trans hE.2.1;have y2:W.cell? ⟨3,0,none⟩=some (.iface 352 (.pointer (some (ea 2)))):=(È.cell (p:=⟨3,0,none⟩) g2).trans hE.2.2.1;have y3:W.cell? ⟨6,0,none⟩=some (.iface 352 (.pointer (some (ea 3)))):=(È.cell (p:=⟨6,0,none⟩) g3).trans hE.2.2.2;have c2:W.cell? ⟨w.heap.size+2,0,none⟩=some (.slice va (n0+1) vc):=by
   rw[ň] at hv;simp[World.cell?,hv]
  have HB:=č È;have HR:Hid (_/\_/\_):=⟨Ą,E9,hK⟩;have HOWN:=č hown';have HLEN:=č ň;clear Ü Ϡ Ϻ Ŀ BQ ό hE È Ą E9 hv hK ň hown';by_cases h6:6<n0+1
  ·have qO:Hid _:=Hq W va (n0+1) vc h6 (by omega) (ea 1) y1;have k0:W.cell? ⟨w.heap.size,0,none⟩=some (.slice none 0 0):=by simp[World.cell?,HR.out.1]
   have k1:W.cell? ⟨w.heap.size+1,0,none⟩=some .nilIface:=by simp[World.cell?,HR.out.2.1]
   have z0:W.frozen? ⟨w.heap.size,0,none⟩=false:=by simp[World.frozen?,HR.out.1]
   have z1:W.frozen? ⟨w.heap.size+1,0,none⟩=false:=by simp[World.frozen?,HR.out.2.1]
   clear Od ϟ y1 y2 y3;go_wp2_with fail;refine Calls.mono qO.out ?_;rintro e w1 ⟨rfl,ϝ⟩;have bK:=ϝ.symm;subst bK;go_wp2;obtain⟨q0,q1,q2⟩:=E5 (a':=.slice none 0 0) (b':=.iface 352 (.pointer (some (ea 1)))) HR.out.1 HR.out.2.1;refine⟨by simp,.inl ⟨_,_,rfl,run_takeDeferred ((q2 _ (by omega) (by omega)).trans (by have:=HR.out.2.2;rwa [Ć] at this)),?_⟩⟩;obtain⟨p0,p1⟩:=yP q0 q1 (.deferred none);refine⟨.tuple #[.slice none 0 0,.iface 352 (.pointer (some (ea 1)))],by simp[results,results58,go_sem,p0,p1],?_,.inr ⟨_,Xg.out,?_,?_,qB.out,.inl ⟨?_,rfl⟩⟩⟩
   ·exact uH ((HB.out.setCell (Nat.le_refl _) _).setCell (by simp) _) _ (by omega) _
   ·rw[HLEN.out];omega
   ·rw[HLEN.out];omega
   ·rw[HLEN.out];exact h6
  ·obtain⟨mm,hmm,ϴ,Ϣ⟩:=zo (kZ (nameAt (iL l (n0+1))) (eY (iL l (n0+1)))) (n0+1);have qO:Hid _:=JM W va (n0+1) vc _ _ Od ϟ (by omega) (by omega) mm hmm ϴ Ϣ (ea 3) (ea 2) y3 y2;have iJ:=č (And.intro ϴ Ϣ);clear Od ϟ y1 y2 y3 ϴ Ϣ;go_wp2_with fail;refine Calls.mono qO.out ?_;rintro e w1 ⟨Ϗ,Ù⟩;have Õ:=Ϗ.size;have JQ:=HB.out.size;have i4:w.heap.size+4<W.heap.size:=by have h:=HR.out.2.2;rw[Ć] at h;exact (Array.getElem?_eq_some_iff.1 h).1
   have rZ:w1.heap[w.heap.size]? = some (.cells #[.slice none 0 0] 119 (0,0))/\w1.heap[w.heap.size+1]? = some (.cells #[.nilIface] 26 (0,0))/\w1.heap[w.heap.size+4]? = some (.deferred (some [])):=
    ⟨(Ϗ.block _ (by omega)).trans HR.out.1,(Ϗ.block _ (by omega)).trans HR.out.2.1,(Ϗ.block _ (by omega)).trans (by have h:=HR.out.2.2;rwa [Ć] at h)⟩
   have k0:w1.cell? ⟨w.heap.size,0,none⟩=some (.slice none 0 0):=by simp[World.cell?,rZ.1]
   have k1:w1.cell? ⟨w.heap.size+1,0,none⟩=some .nilIface:=by simp[World.cell?,rZ.2.1]
   have z0:w1.frozen? ⟨w.heap.size,0,none⟩=false:=by simp[World.frozen?,rZ.1]
   have z1:w1.frozen? ⟨w.heap.size+1,0,none⟩=false:=by simp[World.frozen?,rZ.2.1]
   have k2:w1.cell? ⟨w.heap.size+2,0,none⟩=some (.slice va (n0+1) vc):=(Ϗ.cell (p:=⟨w.heap.size+2,0,none⟩) (by show w.heap.size+2<W.heap.size;omega)).trans c2;have HR1:=č rZ;have HB1:=č Ϗ;clear Ϗ rZ c2;rcases Ù with⟨Z4,rfl⟩|⟨Z4,pb,rfl,Ĩ,p0,p1⟩
   ·have k2s:(w1.setCell ⟨w.heap.size,0,none⟩ (.slice va (n0+1) vc)).cell? ⟨w.heap.size+1,0,none⟩=some .nilIface:=by
     rw[World.cell?_setCell_other _ _ _ _ (by intro e;injection e with e1;omega)];exact k1
    go_wp2;obtain⟨q0,q1,q2⟩:=E5 (a':=.slice va (n0+1) vc) (b':=.nilIface) HR1.out.1 HR1.out.2.1;refine⟨by simp,.inl ⟨_,_,rfl,run_takeDeferred ((q2 _ (by omega) (by omega)).trans HR1.out.2.2),?_⟩⟩;obtain⟨p0,p1⟩:=yP q0 q1 (.deferred none);refine⟨.tuple #[.slice va (n0+1) vc,.nilIface],by simp[results,results58,go_sem,p0,p1],?_,.inr ⟨_,Xg.out,?_,?_,qB.out,.inr ⟨?_,mm,?_,iJ.out.1,?_,.inl ⟨?_,_,rfl,?_⟩⟩⟩⟩
    ·exact uH (((HB.out.trans (HB1.out.mono JQ)).setCell (Nat.le_refl _) _).setCell (by simp) _) _ (by omega) _
    ·rw[HLEN.out];omega
    ·rw[HLEN.out];omega
    ·rw[HLEN.out];omega
    ·rw[HLEN.out];omega
    ·rw[HLEN.out];exact iJ.out.2
    ·rw[HLEN.out];exact Z4
    ·rw[HLEN.out];have ϝ:w1.ownsRow (w.heap.size+6) 123 2 (.slice va (n0+1) vc) (n0+1) (iH (iL l (n0+1))):=by
      obtain⟨h1,h2⟩:=HOWN.out;refine⟨h1,?_⟩;rcases h2 with h2|⟨g,cap,cur,hv,hg,hh,t⟩
      ·exact .inl h2
      ·exact .inr ⟨g,cap,cur,hv,hg,(HB1.out.block _ (aC hh)).trans hh,t⟩
     have h3:=SE (CW (CW ϝ w.heap.size 0 (by omega) (.slice va (n0+1) vc)) (w.heap.size+1) 0 (by omega) .nilIface) (w.heap.size+4) (by omega) (.deferred none);obtain⟨h1,h2⟩:=h3;refine⟨h1,?_⟩;rcases h2 with h2|⟨g,cap,cur,hv,hg,t⟩
     ·exact .inl h2
     ·exact .inr ⟨g,cap,cur,hv,by omega,t⟩
   ·have HP:Hid (_/\_/\_):=⟨Ĩ,p0,p1⟩;clear p0 p1;go_wp2;obtain⟨q0,q1,q2⟩:=E5 (a':=.slice none 0 0) (b':=.iface 126 (.pointer (some ⟨pb,0,none⟩))) HR1.out.1 HR1.out.2.1;refine⟨by simp,.inl ⟨_,_,rfl,run_takeDeferred ((q2 _ (by omega) (by omega)).trans HR1.out.2.2),?_⟩⟩;obtain⟨p0,p1⟩:=yP q0 q1 (.deferred none);refine⟨.tuple #[.slice none 0 0,.iface 126 (.pointer (some ⟨pb,0,none⟩))],by simp[results,results58,go_sem,p0,p1],?_,.inr ⟨_,Xg.out,?_,?_,qB.out,.inr ⟨?_,mm,?_,iJ.out.1,?_,.inr ⟨?_,pb,rfl,?_,?_,?_⟩⟩⟩⟩
    ·exact uH (((HB.out.trans (HB1.out.mono JQ)).setCell (Nat.le_refl _) _).setCell (by simp) _) _ (by omega) _
    ·rw[HLEN.out];omega
    ·rw[HLEN.out];omega
    ·rw[HLEN.out];omega
    ·rw[HLEN.out];omega
    ·rw[HLEN.out];exact iJ.out.2
    ·rw[HLEN.out];exact Z4
    ·have:=HP.out.1;omega
    ·exact (OU _ (by have:=HP.out.1;omega) q2).trans HP.out.2.1
    ·exact (OU _ (by have:=HP.out.1;omega) q2).trans HP.out.2.2
 case stop=>
  intro W Û hx hK;have HX:=č hx;have HK:=č hK;have Xg:Hid (scan l [] [] [] false=none):=Xb l m (λi hi=>⟨HMT.out i (by omega),Uy.out i hi⟩) (ab2.out Û);clear hx hK Ü Ϡ Ϻ Ŀ BQ;go_wp2;refine⟨by simp,.inl ⟨_,_,rfl,run_takeDeferred (by have h:=HK.out;rwa [Ć] at h),?_⟩⟩;obtain⟨p0,p1⟩:=yP HX.out.res HX.out.err (.deferred none);exact⟨.tuple #[.slice none 0 0,.iface 352 (.pointer (some (ea 0)))],by simp[results,results58,go_sem,Ć,p0,p1],uH HX.out.aH _ (by omega) _,.inl ⟨Xg.out,rfl⟩⟩
end Go.Proofs.YtololnhfgjbhjaaGreatDoor
