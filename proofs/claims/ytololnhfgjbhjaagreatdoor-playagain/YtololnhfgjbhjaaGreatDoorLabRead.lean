import Derived.Shelf.RegionOpen
import Derived.Test.YtololnhfgjbhjaaGreatDoorLabCutGroup
import Derived.OwnWalkIn
import Derived.LoopNIn
import Derived.LoopIn
import Derived.RangeFuncNested
import Derived.RangeFuncBound
set_option maxRecDepth 100000
set_option maxHeartbeats 4000000
open Go.Proofs.Tryz
namespace Go.Proofs.YtololnhfgjbhjaaGreatDoor
open Go.RowKit
theorem Đ{p:Prop}(h:p):Go.RowKit.Hid p:=h
variable {P:Program}
def KR(P:Program)(gf:Nat)(lb:Array Value)(encs:Nat->Array Value)(m n:Nat)(w:World):Prop:=
 ∀(l:Nat) (J:Nat->World->Prop) (Jx:World->Prop) (W:World),Below w.heap.size w W ->
  (∀k A q,J k A->J k (World.drewN A q)) ->
  (∀k A,k<m->J k A->YieldAt Fence.wide 0 P l (encs k) A λe A'=>e = .returned (.bool true)/\J (k+1) A') ->
  (∀A,m<n->J m A->YieldAt Fence.wide 0 P l (encs m) A λe A'=>e = .returned (.bool false)/\Jx A') ->
  J 0 W ->
  CallsIn Fence.wide 0 P gf (#[.func (.yield l) #[] #[]]++lb) W λe W'=>(∃v,e = .returned v)/\((m=n/\J n W')\/(m<n/\Jx W'))
def aez(R:World->Prop):Exit->Act->World->Prop
 | .normal,_,W=>R W
 | _,_,_=>False
def adv(R:World->Prop):Exit->Act->World->Prop
 | .ret,_,W=>R W
 | _,_,_=>False
theorem Ru{g:Operand}{ps:Array Tmp}{assign body:Code}{Q:Exit->Act->World->Prop}{a:Act}{w:World}{gf:Nat}{lb:Array Value}
  (hg:a.eval g = .func (.func gf) #[] lb) (eg:∀args w,(callFunc gf args).run P w = .ok (.enter gf args) w)
  (m n:Nat) (encs:Nat->Array Value) (χ:∀k,(encs k).size=ps.size) (ź:KR P gf lb encs m n w)
  (I:Nat->World->Prop) (Ix:World->Prop)
  (hIp:∀k A l o,w.heap.size<=l->l<=w.heap.size+1->I k A->I k (A.putObj l o)) (hId:∀k A q,I k A->I k (World.drewN A q))
  (hXp:∀A l o,w.heap.size<=l->l<=w.heap.size+1->Ix A->Ix (A.putObj l o))
  (h0:∀o1 o2,I 0 ((w.alloc o1).alloc o2)) (a₁:Nat->Act)
  (œ:∀(l k:Nat) (W:World) (K:Act->World->Prop),K (a₁ k) W ->
   assign.wpIn (Fence.wide.inRound l) 0 P (Exit.then K (λ_ _ _=>False)) { tmps:=(ps.zip (encs k)).foldl (λt (p,v)=>t.setIfInBounds p v) a.tmps,defers:=[] } W)
  (hbody:∀(l k:Nat) (W:World),k<m->I k W->w.heap.size+1<W.heap.size ->
   body.wpIn (Fence.wide.inRound l) 0 P (aez λW'=>I (k+1) W'/\W'.heap[w.heap.size]? = W.heap[w.heap.size]? /\ W'.heap[w.heap.size+1]? = W.heap[w.heap.size+1]?) (a₁ k) W)
  (Ĕ:∀(l:Nat) (W:World),m<n->I m W->w.heap.size+1<W.heap.size ->
   body.wpIn (Fence.wide.inRound l) 0 P (adv λW'=>Ix W'/\W'.heap[w.heap.size]? = W.heap[w.heap.size]? /\ W'.heap[w.heap.size+1]? = W.heap[w.heap.size+1]?) (a₁ m) W)
  (hdone:∀(W:World),m=n->I n W->W.heap[w.heap.size]? = some (.deferred (some []))->Q .normal { a with defers:={ target:=.collected w.heap.size,args:=#[] }::a.defers } W)
  (hstop:∀(W:World),m<n->Ix W->W.heap[w.heap.size]? = some (.deferred (some []))->Code.ret.wp P Q { a with defers:={ target:=.collected w.heap.size,args:=#[] }::a.defers } W) :
  (Code.rangeFunc g ps assign body).wp P Q a w:=by
 refine (wpIn_wide (n:=0)).1 (wpIn_rangeFunc ?_);intro fn ϴ;obtain⟨rec,æ⟩:∃rec:LoopState->Option Code->Loop,rec=λst pe=>{ state:=st,pending:=pe,fn,tmps:=a.tmps,params:=ps,assign,body,defers:=w.heap.size }:=⟨_,rfl⟩
 obtain⟨W1,à⟩:∃W1,W1=(w.alloc (.deferred (some []))).alloc (.loop (rec .ready none)):=⟨_,rfl⟩;have hL1:W1.heap[w.heap.size+1]? = some (.loop (rec .ready none)):=by
  rw[à];have:=World.alloc_heap_new (w.alloc (.deferred (some []))) (.loop (rec .ready none));rwa [World.size_alloc] at this
 have Ũ:W1.heap[w.heap.size]? = some (.deferred (some [])):=by
  rw[à];exact (Below.heap_alloc _ _ _ (by simp)).trans (World.alloc_heap_new w _)
 have Ϗ:Below w.heap.size w W1:=by rw[à];exact ((Below.refl _ w).alloc (Nat.le_refl _) _).alloc (by simp) _
 have hi1:I 0 W1:=by rw[à];exact h0 _ _
 refine⟨w.heap.size+1,[{ target:=.collected w.heap.size,args:=#[] }],W1,{ target:=.fn (.func gf) lb,args:=#[.func (.yield (w.heap.size+1)) #[] #[]] },W1,gf,
  #[.func (.yield (w.heap.size+1)) #[] #[]]++lb,W1,?_,?_,?_,?_,λh=>by simp[Fence.wide] at h,?_⟩
 ·rw[à,æ];exact run_enterLoop_outer _ _ _ _ _
 ·simp only[resolve,hg];simp[go_sem]
 ·intro f' _;trivial
 ·simp[invoke,go_sem,eg]
 ·refine CallsIn.mono (ź (w.heap.size+1)
   (λk W=>I k W/\W.heap[w.heap.size+1]? = some (.loop (rec .ready none))/\W.heap[w.heap.size]? = some (.deferred (some [])))
   (λW=>Ix W/\W.heap[w.heap.size+1]? = some (.loop (rec .done (some .ret)))/\W.heap[w.heap.size]? = some (.deferred (some [])))
   W1 Ϗ ?_ ?_ ?_ ⟨hi1,hL1,Ũ⟩) ?_
  ·rintro k A q ⟨hi,hl,hd⟩;exact⟨hId k A q hi,hl,hd⟩
  ·rintro k A hk ⟨hi,hl,hd⟩;have ĥ:=(Array.getElem?_eq_some_iff.1 hl).1;have hy:=run_yield (P:=P) (args:=encs k) hl (by rw[æ];exact χ k);rw[æ] at hy;refine⟨fn,_,assign,body,hy,roundIn_of_wpIn ϴ (œ _ k A _ ?_)⟩;clear hy;refine⟨_,run_beginRound hl (by rw[æ]),?_⟩;obtain⟨Ab,wY⟩:∃Ab,Ab=A.putObj (w.heap.size+1) (.loop { rec .ready none with state:=.busy }):=⟨_,rfl⟩;rw[<-wY];have hsb:Ab.heap.size=A.heap.size:=by rw[wY];simp
   have Ø:Ab.heap[w.heap.size+1]? = some (.loop { rec .ready none with state:=.busy }):=by rw[wY];exact World.putObj_heap_same (by omega)
   have hdb:Ab.heap[w.heap.size]? = some (.deferred (some [])):=by rw[wY,World.putObj_heap_other (by omega)];exact hd
   have hib:I k Ab:=by rw[wY];exact hIp k A _ _ (by omega) (by omega) hi
   refine wpIn_mono (hbody _ k Ab hk hib (by omega)) ?_;rintro e a3 W3 hp;cases e with
   | normal=>
    obtain⟨hi3,hd3,hl3⟩:=hp;have OI:=hl3.trans Ø;have alb:=(Array.getElem?_eq_some_iff.1 OI).1;refine⟨_,_,run_endRound (P:=P) none OI,rfl,hIp _ _ _ _ (by omega) (by omega) hi3,?_,?_⟩
    ·rw[World.putObj_heap_same (by omega),æ];rfl
    ·rw[World.putObj_heap_other (by omega)];exact hd3.trans hdb
   | ret=>exact hp.elim
   | exit id=>exact hp.elim
   | goto t=>exact hp.elim
   | panic ch=>exact hp.elim
   | outgrown=>exact hp.elim
  ·rintro A Û ⟨hi,hl,hd⟩;have ĥ:=(Array.getElem?_eq_some_iff.1 hl).1;have hy:=run_yield (P:=P) (args:=encs m) hl (by rw[æ];exact χ m);rw[æ] at hy;refine⟨fn,_,assign,body,hy,roundIn_of_wpIn ϴ (œ _ m A _ ?_)⟩;clear hy;refine⟨_,run_beginRound hl (by rw[æ]),?_⟩;obtain⟨Ab,wY⟩:∃Ab,Ab=A.putObj (w.heap.size+1) (.loop { rec .ready none with state:=.busy }):=⟨_,rfl⟩;rw[<-wY];have hsb:Ab.heap.size=A.heap.size:=by rw[wY];simp
   have Ø:Ab.heap[w.heap.size+1]? = some (.loop { rec .ready none with state:=.busy }):=by rw[wY];exact World.putObj_heap_same (by omega)
   have hdb:Ab.heap[w.heap.size]? = some (.deferred (some [])):=by rw[wY,World.putObj_heap_other (by omega)];exact hd
   have hib:I m Ab:=by rw[wY];exact hIp m A _ _ (by omega) (by omega) hi
   refine wpIn_mono (Ĕ _ Ab Û hib (by omega)) ?_;rintro e a3 W3 hp;cases e with
   | ret=>
    obtain⟨hi3,hd3,hl3⟩:=hp;have OI:=hl3.trans Ø;have alb:=(Array.getElem?_eq_some_iff.1 OI).1;refine⟨_,_,run_endRound (P:=P) (some .ret) OI,rfl,hXp _ _ _ (by omega) (by omega) hi3,?_,?_⟩
    ·rw[World.putObj_heap_same (by omega),æ];rfl
    ·rw[World.putObj_heap_other (by omega)];exact hd3.trans hdb
   | normal=>exact hp.elim
   | exit id=>exact hp.elim
   | goto t=>exact hp.elim
   | panic ch=>exact hp.elim
   | outgrown=>exact hp.elim
  ·rintro e W2 ⟨⟨v,rfl⟩,h⟩;rcases h with⟨Û,hi,hl,hd⟩|⟨Û,hi,hl,hd⟩
   ·refine⟨none,_,by have:=run_endLoop (P:=P) hl (by rw[æ];simp);rw[æ] at this;exact this,hdone _ Û (hIp _ _ _ _ (by omega) (by omega) hi) ((World.putObj_heap_other (by omega)).trans hd)⟩
   ·refine⟨some .ret,_,by have:=run_endLoop (P:=P) hl (by rw[æ];simp);rw[æ] at this;exact this,?_⟩;exact wpIn_wide.2 (hstop _ Û (hXp _ _ _ (by omega) (by omega) hi) ((World.putObj_heap_other (by omega)).trans hd))
open Go.Shelf aF
attribute [local go_sem] Oper.semAt_some
def Us:Value->Nat
 | .string s=>s.size
 | _=>0
def Ut:Value->Nat
 | .bool true=>1
 | _=>0
theorem Uu(s:ByteArray)(w:World):
  Calls prog 89 #[.string s] w λe w'=>e = .returned (.func (.func 124) #[] #[.pointer (some ⟨w.heap.size,0,none⟩)])/\w'=w.alloc (.cells #[.string s] 9):=by
 go_enter func89,ntmps89;go_wp2;go_ret;exact⟨rfl,rfl⟩
theorem NH(Bn:Nat)(s:ByteArray)(w:World)(hs:s.size<=1000000)(m n:Nat)(hm:m<=n)(Í:1<=n)(ł:∀i,i<n->oh s.data.toList i=decide (i+1<n))
  (CO:w.cell? ⟨Bn,0,none⟩=some (.string s)) :
  KR prog 124 #[.pointer (some ⟨Bn,0,none⟩)] (λk=>#[.string (txt (lq s.data.toList k))]) m n w:=by
 intro l J Jx W Ϛ hJd WW hJx hJ0;have hBn:Bn<w.heap.size:=World.block_lt_of_cell? w ⟨Bn,0,none⟩ CO;have Uv:W.cell? ⟨Bn,0,none⟩=some (.string s):=(Ϛ.cell (p:=⟨Bn,0,none⟩) hBn).trans CO;have ϟ:∀k,(txt (gV s.data.toList k)).size<=1000000:=λk=>by
  rw[fU];have h1:=KT s.data.toList k;have h2:s.data.toList.length=s.size:=Array.length_toList;omega
 have gM:=Đ ϟ;have HJd:=Đ hJd;have HJy:=Đ WW;have HJx:=Đ hJx;have HJ0:=Đ hJ0;have HM:=Đ ł;clear hJ0 hJd WW hJx ł ϟ CO Ϛ;refine callsIn_of_wp func124 rfl trivial ?_ rfl;simp only[ntmps124,List.size_toArray,List.length_cons,List.length_nil,Nat.reduceAdd,Nat.reduceSub,Array.replicate_succ,Array.replicate_zero,List.push_toArray,List.append_toArray,List.nil_append,List.cons_append];gi_wp2;gi_loopw [3,4,5] (λr f _ wr=>∃k:Nat,k<=m/\r = .string (txt (gV s.data.toList k))/\f = .bool (decide (k<n))/\J k wr) (λr f _ _=>Us r+Ut f);case atStart=>exact⟨0,Nat.zero_le _,rfl,by simp;omega,HJ0.out⟩
 case round=>
  obtain⟨k,ù,rfl,rfl,hJ⟩:=hrel;have HJ:=Đ hJ;clear hJ HJ0;by_cases ϥ:k<n
  ·rw[show decide (k<n)=true from decide_eq_true ϥ];have hcut:=λw0=>adw (txt (gV s.data.toList k)) w0 (gM.out k)
   have hp:txt (aJ 44 (txt (gV s.data.toList k)).data.toList).1=txt (lq s.data.toList k):=rfl;have hr:txt (aJ 44 (txt (gV s.data.toList k)).data.toList).2.1=txt (gV s.data.toList (k+1)):=rfl;have hf:(aJ 44 (txt (gV s.data.toList k)).data.toList).2.2=oh s.data.toList k:=rfl;rw[hp,hr,hf,HM.out k ϥ] at hcut;have OO:=Đ hcut;have abL:(gV s.data.toList (k+1)).length+(if k+1<n then 1 else 0)<(gV s.data.toList k).length+1:=by
    have hc:=oU 44 (gV s.data.toList k);have ĭ:=HM.out k ϥ;by_cases ϒ:k+1<n
    ·rw[decide_eq_true ϒ] at ĭ;have:=hc.2.2 ĭ;rw[if_pos ϒ];simp only[gV];omega
    ·rw[decide_eq_false ϒ] at ĭ;have hz:gV s.data.toList (k+1) = []:=LQ 44 _ ĭ;rw[if_neg ϒ,hz];simp
   have aic:=Đ abL;clear hcut hp hr hf abL;have Ŕ:(txt (gV s.data.toList k)).size=(gV s.data.toList k).length:=fU _;generalize txt (gV s.data.toList k)=r0 at *;have vS:=Đ Ŕ;clear Ŕ;gi_wp2_with fail;refine⟨trivial,rfl,?_⟩;refine CallsIn.mono (callsIn_wide.2 (OO.out _)) ?_;rintro e w1 ⟨rfl,q,rfl⟩;have OP:=HJd.out k wr q HJ.out;by_cases ϙ:k<m
   ·obtain⟨fn,tmps,assign,body,hy,hR⟩:=HJy.out k _ ϙ OP;have HR:=Đ hR;clear hR OP;gi_wp2;refine⟨rfl,?_⟩;refine RoundIn.mono HR.out ?_;rintro e W3 ⟨rfl,hJ3⟩;have HJ3:=Đ hJ3;clear hJ3 hy;gi_wp2;go_roundw;case rel=>exact⟨k+1,by omega,rfl,rfl,HJ3.out⟩
    case measure=>
     have h1:=aic.out;have h2:=vS.out;have h3:(txt (gV s.data.toList (k+1))).size=(gV s.data.toList (k+1)).length:=fU _;by_cases ϒ:k+1<n
     ·rw[if_pos ϒ] at h1;simp[Us,Ut,ϒ];omega
     ·rw[if_neg ϒ] at h1;simp[Us,Ut,ϒ];omega
   ·have Oh:k=m:=by omega
    subst Oh;obtain⟨fn,tmps,assign,body,hy,hR⟩:=HJx.out _ ϥ OP;have HR:=Đ hR;clear hR OP;gi_wp2;refine⟨rfl,?_⟩;refine RoundIn.mono HR.out ?_;rintro e W3 ⟨rfl,hJ3⟩;have HJ3:=Đ hJ3;clear hJ3 hy;gi_wp2;exact bodyPost_ret (v:=.tuple #[]) (results_none rfl _ _ _) rfl ⟨⟨_,rfl⟩,.inr ⟨ϥ,HJ3.out⟩⟩
  ·have h1:k=n:=by omega
   have h2:m=n:=by omega
   rw[show decide (k<n)=false from decide_eq_false ϥ];subst h1;gi_wp2;go_end0;exact⟨⟨_,rfl⟩,.inl ⟨h2,HJ.out⟩⟩
attribute [local go_sem] Oper.semAt_some
structure IK(s0:Nat)(w:World)(l:List UInt8)(k:Nat)(W:World):Prop where
 aI:Below s0 w W
 res:W.heap[s0]? = some (.cells #[.slice none 0 0] 119 (0,0))
 err:W.heap[s0+1]? = some (.cells #[.nilIface] 26 (0,0))
 row:∃v,W.heap[s0+2]? = some (.cells #[v] 119 (0,0))/\W.ownsRow (s0+6) 123 2 v k (gZ (iw l k))
structure NZ(s0:Nat)(w:World)(a:Addr)(W:World):Prop where
 aI:Below s0 w W
 res:W.heap[s0]? = some (.cells #[.slice none 0 0] 119 (0,0))
 err:W.heap[s0+1]? = some (.cells #[.iface 352 (.pointer (some a))] 26 (0,0))
theorem SB{w:World}{base:Nat}{e:TypeId}{sz:Nat}{v:Value}{n:Nat}{xs:List Value}(h:w.ownsRow base e sz v n xs)(b:Nat)(hb:b<base)(o:Obj):(w.putObj b o).ownsRow base e sz v n xs:=by
 obtain⟨h1,h2⟩:=h;refine⟨h1,?_⟩;rcases h2 with h2|⟨g,cap,cur,hv,hg,hh,t⟩
 ·exact .inl h2
 ·exact .inr ⟨g,cap,cur,hv,hg,by rw[World.putObj_heap_other (by omega)];exact hh,t⟩
theorem ug{s0:Nat}{w W:World}(h:Below s0 w W)(b:Nat)(hb:s0<=b)(o:Obj):Below s0 w (W.putObj b o):=
 h.trans ⟨rfl,rfl,rfl,by simp,λk hk=>World.putObj_heap_other (by omega)⟩
theorem IK.put{s0:Nat}{w:World}{l:List UInt8}{k:Nat}{W:World}(h:IK s0 w l k W)(b:Nat)(o:Obj)(h1:s0+4<=b)(h2:b<=s0+5):IK s0 w l k (W.putObj b o):=by
 obtain⟨hb,hr,he,v,hv,ho⟩:=h;exact⟨ug hb b (by omega) o,(World.putObj_heap_other (by omega)).trans hr,(World.putObj_heap_other (by omega)).trans he,v,(World.putObj_heap_other (by omega)).trans hv,SB ho b (by omega) o⟩
theorem IK.drewN{s0:Nat}{w:World}{l:List UInt8}{k:Nat}{W:World}(h:IK s0 w l k W)(q:Nat):IK s0 w l k (W.drewN q):=
 ⟨below_draws h.aI q,h.res,h.err,h.row⟩
theorem NZ.put{s0:Nat}{w:World}{a:Addr}{W:World}(h:NZ s0 w a W)(b:Nat)(o:Obj)(h1:s0+4<=b):NZ s0 w a (W.putObj b o):=
 ⟨ug h.aI b (by omega) o,(World.putObj_heap_other (by omega)).trans h.res,(World.putObj_heap_other (by omega)).trans h.err⟩
theorem yN{X:World}{s0:Nat}{a b:Value}(h0:X.heap[s0]? = some (.cells #[a] 119 (0,0)))(h1:X.heap[s0+1]? = some (.cells #[b] 26 (0,0)))(o:Obj):
  (X.putObj (s0+4) o).cell? ⟨s0,0,none⟩=some a/\(X.putObj (s0+4) o).cell? ⟨s0+1,0,none⟩=some b:=by
 have e0:(X.putObj (s0+4) o).heap[s0]? = some (.cells #[a] 119 (0,0)):=(World.putObj_heap_other (by omega)).trans h0;have e1:(X.putObj (s0+4) o).heap[s0+1]? = some (.cells #[b] 26 (0,0)):=(World.putObj_heap_other (by omega)).trans h1;simp only[World.cell?,e0,e1];exact⟨rfl,rfl⟩
theorem EG{X:World}{s0:Nat}{a b a' b':Value}(h0:X.heap[s0]? = some (.cells #[a] 119 (0,0)))(h1:X.heap[s0+1]? = some (.cells #[b] 26 (0,0))):
  ((X.setCell ⟨s0,0,none⟩ a').setCell ⟨s0+1,0,none⟩ b').heap[s0]? = some (.cells #[a'] 119 (0,0))/\((X.setCell ⟨s0,0,none⟩ a').setCell ⟨s0+1,0,none⟩ b').heap[s0+1]? = some (.cells #[b'] 26 (0,0)) /\
  (∀k,k≠s0->k≠s0+1->((X.setCell ⟨s0,0,none⟩ a').setCell ⟨s0+1,0,none⟩ b').heap[k]? = X.heap[k]?):=by
 refine⟨?_,?_,λk k0 k1=>?_⟩
 ·rw[Below.heap_setCell _ _ _ _ (by show s0≠s0+1;omega),dU h0 0 _];rfl
 ·rw[dU ((Below.heap_setCell _ _ _ _ (by show s0+1≠s0;omega)).trans h1) 0 _];rfl
 ·rw[Below.heap_setCell _ _ _ _ k1,Below.heap_setCell _ _ _ _ k0]
theorem OQ{X Y:World}{s0 b i:Nat}(o:Obj)(hb:s0+4<b)(h:∀k,k≠s0->k≠s0+1->Y.heap[k]? = X.heap[k]?):(Y.putObj (s0+4) o).cell? ⟨b,i,none⟩=X.cell? ⟨b,i,none⟩:=by
 have e:(Y.putObj (s0+4) o).heap[b]? = X.heap[b]?:=(World.putObj_heap_other (by omega)).trans (h b (by omega) (by omega));simp only[World.cell?,e]
def ZQ(w w':World)(l:List UInt8)(ea:Nat->Addr)(e:Ending):Prop:=
 Below w.heap.size w w'/\((scan l [] [] [] false=none/\e = .returned (.tuple #[.slice none 0 0,.iface 352 (.pointer (some (ea 0)))])) \/
  ∃out:List (List UInt8×List UInt8),scan l [] [] [] false=some out/\1<=out.length/\out.length<=l.length+1/\(∀p,p∈out->p.1.length<=l.length/\p.2.length<=l.length) /\
   ((6<out.length/\e = .returned (.tuple #[.slice none 0 0,.iface 352 (.pointer (some (ea 1)))])) \/
   (out.length<=6/\∃m,m<=out.length/\(∀i,i<m->kR (nameAt out) (eO out) i=true)/\(m<out.length->kR (nameAt out) (eO out) m=false) /\
    ((m=out.length/\∃v,e = .returned (.tuple #[v,.nilIface])/\w'.ownsRow w.heap.size 123 2 v out.length (gZ out)) \/
     (m<out.length/\∃pb:Nat,e = .returned (.tuple #[.slice none 0 0,.iface 126 (.pointer (some ⟨pb,0,none⟩))])/\w.heap.size<=pb/\w'.cell? ⟨pb,0,none⟩=some (.int .i64 (m:Int))/\w'.cell? ⟨pb,1,none⟩=some (.iface 352 (.pointer (some (if (isName (nameAt out m)&&isWord (eO out m))=true then ea 2 else ea 3)))))))))
theorem WX(s:ByteArray)(w:World)(hs:s.size<=100000)(ea:Nat->Addr)(e0:w.cell? ⟨8,0,none⟩=some (.iface 352 (.pointer (some (ea 0)))))(e1:w.cell? ⟨0,0,none⟩=some (.iface 352 (.pointer (some (ea 1)))))
  (e2:w.cell? ⟨3,0,none⟩=some (.iface 352 (.pointer (some (ea 2))))) (e3:w.cell? ⟨6,0,none⟩=some (.iface 352 (.pointer (some (ea 3))))) :
  Calls prog 58 #[.string s] w λe w'=>ZQ w w' s.data.toList ea e:=by
 obtain⟨l,hl⟩:∃l,l=s.data.toList:=⟨_,rfl⟩;have î:l.length=s.size:=by rw[hl];exact Array.length_toList
 obtain⟨n0,Ð,hmt,hmf⟩:=WT l;obtain⟨m,hm,hhas,abM⟩:=zq (EF l) (n0+1);have ł:∀i,i<n0+1->oh l i=decide (i+1<n0+1):=λi hi=>by
  rcases Nat.lt_or_ge i n0 with h|h
  ·rw[hmt i h];simp;omega
  ·have:i=n0:=by omega
   subst this;rw[hmf];simp
 have HL:=Đ hl;have HMT:=Đ hmt;have WY:=Đ hmf;have aie:=Đ ł;have Uw:=Đ hhas;have abN:=Đ abM;have g0:8<w.heap.size:=World.block_lt_of_cell? w ⟨8,0,none⟩ e0;have g1:0<w.heap.size:=World.block_lt_of_cell? w ⟨0,0,none⟩ e1;have g2:3<w.heap.size:=World.block_lt_of_cell? w ⟨3,0,none⟩ e2;have g3:6<w.heap.size:=World.block_lt_of_cell? w ⟨6,0,none⟩ e3;have HE:Hid (_/\_/\_/\_):=⟨e0,e1,e2,e3⟩;have EH:Hid _:=λw0=>Uu s w0
 rw[<-hl];clear hl hmt hmf ł hhas abM e0 e1 e2 e3;refine callsIn_wide.1 (callsIn_of_wp_marks (n:=0) func58 rfl trivial (wpIn_wide.2 ?_));simp only[ntmps58,List.size_toArray,List.length_cons,List.length_nil,Nat.reduceAdd,Nat.reduceSub,Array.replicate_succ,Array.replicate_zero,List.push_toArray,List.append_toArray,List.nil_append,List.cons_append];go_wp2_with fail;refine Calls.mono (EH.out _) ?_;rintro e w1 ⟨rfl,rfl⟩;go_wp2;obtain⟨W0,Ĺ⟩:∃W0,W0=(((w.alloc (.cells #[.slice none 0 0] 119)).alloc (.cells #[.nilIface] 26)).alloc (.cells #[.slice none 0 0] 119)).alloc (.cells #[.string s] 9):=⟨_,rfl⟩;have ĉ:W0.heap.size=w.heap.size+4:=by rw[Ĺ];simp
 have É:Below w.heap.size w W0:=by rw[Ĺ];exact ((((Below.refl _ _).alloc (Nat.le_refl _) _).alloc (by simp) _).alloc (by simp;omega) _).alloc (by simp;omega) _
 have Ý:W0.heap[w.heap.size]? = some (.cells #[.slice none 0 0] 119 (0,0)):=by
  rw[Ĺ,Below.heap_alloc _ _ _ (by simp;omega),Below.heap_alloc _ _ _ (by simp;omega),Below.heap_alloc _ _ _ (by simp)];exact heap_alloc_new _ _
 have Ϡ:W0.heap[w.heap.size+1]? = some (.cells #[.nilIface] 26 (0,0)):=by
  rw[Ĺ,Below.heap_alloc _ _ _ (by simp),Below.heap_alloc _ _ _ (by simp)];have:=heap_alloc_new (w.alloc (.cells #[.slice none 0 0] 119)) (.cells #[.nilIface] 26);simpa using this
 have ϵ:W0.heap[w.heap.size+2]? = some (.cells #[.slice none 0 0] 119 (0,0)):=by
  rw[Ĺ,Below.heap_alloc _ _ _ (by simp)];have:=heap_alloc_new ((w.alloc (.cells #[.slice none 0 0] 119)).alloc (.cells #[.nilIface] 26)) (.cells #[.slice none 0 0] 119);simpa using this
 have ĺ:W0.heap[w.heap.size+3]? = some (.cells #[.string s] 9 (0,0)):=by
  rw[Ĺ];have:=heap_alloc_new (((w.alloc (.cells #[.slice none 0 0] 119)).alloc (.cells #[.nilIface] 26)).alloc (.cells #[.slice none 0 0] 119)) (.cells #[.string s] 9);simpa using this
 rw[<-Ĺ];clear Ĺ;have BF:KR prog 124 #[.pointer (some ⟨w.heap.size+3,0,none⟩)] (λk=>#[.string (txt (lq l k))]) m (n0+1) W0:=by
  rw[HL.out];refine NH (w.heap.size+3) s W0 (by omega) m (n0+1) hm (by omega) ?_ (by simp[World.cell?,ĺ]);rw[<-HL.out];exact aie.out
 refine Ru (gf:=124) (lb:=#[.pointer (some ⟨w.heap.size+3,0,none⟩)]) rfl (enters_of func124 (by kernel_rfl) rfl) m (n0+1) (λk=>#[.string (txt (lq l k))]) (λ_=>rfl) BF
  (IK w.heap.size w l) (NZ w.heap.size w (ea 0)) ?alc ?aif ?ald ?start
  (λk=>{ tmps:=#[.string s,undef,.pointer (some ⟨w.heap.size,0,none⟩),.pointer (some ⟨w.heap.size+1,0,none⟩),.pointer (some ⟨w.heap.size+2,0,none⟩),.string (txt (lq l k)),undef,undef,undef,undef,.string s,.func (.func 124) #[] #[.pointer (some ⟨w.heap.size+3,0,none⟩)],.string (txt (lq l k)),undef,undef,undef,undef,undef,undef,undef,undef,undef,undef,undef,undef,undef,undef,undef,undef,undef,undef,undef,undef,undef],defers:=[] })
  ?assign ?body ?last ?done ?stop
 case alc=>intro k A b o h1 h2 h;exact h.put b o (by omega) (by omega)
 case aif=>intro k A q h;exact h.drewN q
 case ald=>intro A b o h1 _ h;exact h.put b o (by omega)
 case start=>
  intro o1 o2;refine⟨(É.alloc (by omega) _).alloc (by simp;omega) _,?_,?_,.slice none 0 0,?_,?_⟩
  ·rw[Below.heap_alloc _ _ _ (by simp;omega),Below.heap_alloc _ _ _ (by omega)];exact Ý
  ·rw[Below.heap_alloc _ _ _ (by simp;omega),Below.heap_alloc _ _ _ (by omega)];exact Ϡ
  ·rw[Below.heap_alloc _ _ _ (by simp;omega),Below.heap_alloc _ _ _ (by omega)];exact ϵ
  ·exact⟨by simp[gZ,iw],.inl ⟨rfl,rfl⟩⟩
 case assign=>
  intro lp k W K hK;gi_wp2;exact hK
 case body=>
  intro lp k W ù ι ϙ;obtain⟨Ë,ą,EI,v,hv,ό⟩:=ι;have hcut:=λw0=>KS (txt (lq l k)) w0 (by rw[fU];have:=Gj l k;omega)
  have hh:=Uw.out k ù;have hf:(aJ 61 (txt (lq l k)).data.toList).2.2=EF l k:=rfl;have hn:txt (aJ 61 (txt (lq l k)).data.toList).1=txt (rO l k).1:=rfl;have hvv:txt (aJ 61 (txt (lq l k)).data.toList).2.1=txt (rO l k).2:=rfl;rw[hf,hn,hvv,hh] at hcut;have OO:=Đ hcut;clear hcut hf hn hvv hh Ý Ϡ ϵ ĺ BF;gi_wp2_with fail;refine⟨trivial,rfl,?_⟩;refine CallsIn.mono (CallsIn.inRound lp (callsIn_wide.2 (OO.out _))) ?_;rintro e w2 ⟨rfl,q,hq⟩;have HW2:Hid (w2.heap=W.heap/\Below w.heap.size w w2):=by rw[hq];exact⟨rfl,below_draws Ë q⟩
  have ψ:w2.heap[w.heap.size+2]? = some (.cells #[v] 119 (0,0)):=by rw[hq];exact hv
  have Æ:w2.ownsRow (w.heap.size+6) 123 2 v k (gZ (iw l k)):=by rw[hq];exact ό
  have HS2:Hid (w2.heap.size=W.heap.size):=by rw[hq];exact Eq.refl W.heap.size
  clear hq;have c0:w2.cell? ⟨w.heap.size+2,0,none⟩=some v:=by simp[World.cell?,ψ]
  obtain⟨i0,hi,Ċ,Ā,Ć⟩:=info_parts Tryz.infoLabel;have HI:=Đ hi;clear hi;have qm:(w2.alloc (.cells #[.string (txt (rO l k).1),.string (txt (rO l k).2)] 123)).ownsRow (w.heap.size+6) 123 2 v k (gZ (iw l k)):=Æ.alloc _;gi_wp2_with (gi_at_builtin;refine wpListIn_append_own _ rfl _ _ 119 rfl (w.heap.size+6) 123 i0 (.agg #[.string ⟨#[]⟩,.string ⟨#[]⟩]) 2 32 underlying119 HI.out Ċ Ā Ć rfl (by decide) _ _ _ rfl qm ⟨w2.heap.size,0,none⟩ 1 1 [.string (txt (rO l k).1),.string (txt (rO l k).2)] rfl rfl (World.news_of_block (heap_alloc_new w2 _)) ?c2 ?c3 ?c4 ?c5 ?_);case c2=>first|exact⟨rfl,rfl⟩|(intro q hq;simp at hq;rcases hq with rfl|rfl<;>rfl)
  case c3=>unfold maxLen;omega
  case c4=>omega
  case c5=>have:=HS2.out;simp;omega
  intro v' w3 è ϑ _;rw[ND (iw l k) (rO l k),<-Ba] at è;have hS2:=HS2.out;have oV:∀b,b<w.heap.size+6->w3.heap[b]? = W.heap[b]?:=λb hb=>by
   have h1:(w2.alloc (.cells #[.string (txt (rO l k).1),.string (txt (rO l k).2)] 123)).heap[b]? = W.heap[b]?:=by
    rw[Below.heap_alloc _ _ _ (by omega),HW2.out.1]
   rw[ϑ.block b (by simp;omega) ?_,h1];intro e;rcases Æ.2 with⟨hv',_⟩|⟨g,cap,cur,hv',hgb,_⟩
   ·rw[hv'] at e;simp[Value.ownBlock] at e
   ·rw[hv'] at e;simp[Value.ownBlock] at e;omega
  have abO:Below w.heap.size w w3:=by
   have h2:=HW2.out.2;refine⟨ϑ.os.trans h2.os,ϑ.tape.trans h2.tape,ϑ.output.trans h2.output,?_,λb hb=>?_⟩
   ·have h3:=ϑ.size;have h4:=h2.size;simp at h3;omega
   ·rw[oV b (by omega)];exact Ë.block b hb
  have ĺ:w3.heap[w.heap.size+2]? = some (.cells #[v] 119 (0,0)):=(oV _ (by omega)).trans hv;have d0:w3.cell? ⟨w.heap.size+2,0,none⟩=some v:=by simp[World.cell?,ĺ]
  have f0:w3.frozen? ⟨w.heap.size+2,0,none⟩=false:=by simp[World.frozen?,ĺ]
  obtain⟨ao,n',cap,hv'⟩:∃ao n' cap,v' = .slice ao n' cap:=by
   rcases è.2 with⟨hv',_⟩|⟨g,cap,cur,hv',_⟩
   ·exact⟨_,_,_,hv'⟩
   ·exact⟨_,_,_,hv'⟩
  have HV':=Đ hv';have Ux:=Đ oV;have aii:=Đ abO;have CP:=Đ è;have rP:Hid (_/\_):=⟨ą,EI⟩;have HR3:=Đ ĺ;clear oV abO è ϑ Æ qm ą EI hv ό c0 ψ Ë ĺ;subst hv';gi_wp2;refine⟨⟨aii.out.setCell (by simp) _,?_,?_,.slice ao n' cap,?_,?_⟩,?_,?_⟩
  ·rw[Below.heap_setCell _ _ _ _ (by show w.heap.size≠w.heap.size+2;omega),Ux.out _ (by omega)];exact rP.out.1
  ·rw[Below.heap_setCell _ _ _ _ (by show w.heap.size+1≠w.heap.size+2;omega),Ux.out _ (by omega)];exact rP.out.2
  ·rw[dU HR3.out 0 _];rfl
  ·exact CB CP.out _ _ (by omega) _
  ·rw[Below.heap_setCell _ _ _ _ (by show w.heap.size+4≠w.heap.size+2;omega),Ux.out _ (by omega)]
  ·rw[Below.heap_setCell _ _ _ _ (by show w.heap.size+4+1≠w.heap.size+2;omega),Ux.out _ (by omega)]
 case last=>
  intro lp W Û ι ϙ;obtain⟨Ë,ą,EI,v,hv,ό⟩:=ι;have hcut:=λw0=>KS (txt (lq l m)) w0 (by rw[fU];have:=Gj l m;omega)
  have hh:=abN.out Û;have hf:(aJ 61 (txt (lq l m)).data.toList).2.2=EF l m:=rfl;have hn:txt (aJ 61 (txt (lq l m)).data.toList).1=txt (rO l m).1:=rfl;have hvv:txt (aJ 61 (txt (lq l m)).data.toList).2.1=txt (rO l m).2:=rfl;rw[hf,hn,hvv,hh] at hcut;have OO:=Đ hcut;clear hcut hf hn hvv hh Ý Ϡ ϵ ĺ BF hv ό;gi_wp2_with fail;refine⟨trivial,rfl,?_⟩;refine CallsIn.mono (CallsIn.inRound lp (callsIn_wide.2 (OO.out _))) ?_;rintro e w2 ⟨rfl,q,hq⟩;have HW2:Hid (w2.heap=W.heap/\Below w.heap.size w w2):=by rw[hq];exact⟨rfl,below_draws Ë q⟩
  have hres2:w2.heap[w.heap.size]? = some (.cells #[.slice none 0 0] 119 (0,0)):=by rw[hq];exact ą
  have N7:w2.heap[w.heap.size+1]? = some (.cells #[.nilIface] 26 (0,0)):=by rw[hq];exact EI
  have ϓ:Below w.heap.size w w2:=HW2.out.2;have k0:w2.cell? ⟨w.heap.size,0,none⟩=some (.slice none 0 0):=by simp[World.cell?,hres2]
  have k1:w2.cell? ⟨w.heap.size+1,0,none⟩=some .nilIface:=by simp[World.cell?,N7]
  have z0:w2.frozen? ⟨w.heap.size,0,none⟩=false:=by simp[World.frozen?,hres2]
  have z1:w2.frozen? ⟨w.heap.size+1,0,none⟩=false:=by simp[World.frozen?,N7]
  have x0:w2.cell? ⟨8,0,none⟩=some (.iface 352 (.pointer (some (ea 0)))):=(ϓ.cell (p:=⟨8,0,none⟩) g0).trans HE.out.1;have HX:Hid (_/\_/\_):=⟨ϓ,hres2,N7⟩;clear hq Ë ą EI ϓ hres2 N7;have ale:prog.follows .mixedOrders=true:=by kernel_rfl
  have Ô:=HX.out.1.size;gi_wp2_with fail;gi_region_o;all_goals
   gi_wp2;have hX:=HX.out;refine⟨⟨(((hX.1.setCell (Nat.le_refl _) _).setCell (by simp) _).trans ⟨rfl,rfl,rfl,Nat.le_refl _,λ_ _=>rfl⟩),?_,?_⟩,?_,?_⟩
   ·show (World.setCell _ _ _).heap[_]? = _;rw[Below.heap_setCell _ _ _ _ (by show w.heap.size≠w.heap.size+1;omega),dU hX.2.1 0 _];rfl
   ·show (World.setCell _ _ _).heap[_]? = _;rw[dU ((Below.heap_setCell _ _ _ _ (by show w.heap.size+1≠w.heap.size;omega)).trans hX.2.2) 0 _];rfl
   ·show (World.setCell _ _ _).heap[_]? = _;rw[Below.heap_setCell _ _ _ _ (by show _≠w.heap.size+1;omega),Below.heap_setCell _ _ _ _ (by show _≠w.heap.size;omega),HW2.out.1]
   ·show (World.setCell _ _ _).heap[_]? = _;rw[Below.heap_setCell _ _ _ _ (by show _≠w.heap.size+1;omega),Below.heap_setCell _ _ _ _ (by show _≠w.heap.size;omega),HW2.out.1]
 case done=>
  intro W Û ι hK;obtain⟨Ë,ą,EI,v,hv,ό⟩:=ι;have Ń:(iw l (n0+1)).length=n0+1:=NG l (n0+1);have hown':W.ownsRow (w.heap.size+6) 123 2 v (iw l (n0+1)).length (gZ (iw l (n0+1))):=by rw[Ń];exact ό
  obtain⟨va,vc,rfl,hvc,N8⟩:=OG hown';have WZ:Hid (scan l [] [] [] false=some (iw l (n0+1))):=WV l n0 (λi hi=>⟨HMT.out i hi,Uw.out i (by omega)⟩) (Uw.out n0 (by omega)) WY.out;have oI:Hid (∀p,p∈iw l (n0+1)->p.1.length<=l.length/\p.2.length<=l.length):=λp hp=>by
   simp[iw] at hp;obtain⟨i,_,rfl⟩:=hp;exact WS l i
  rw[Ń] at N8 hown' hvc;have ϟ:∀i,i<n0+1->(nameAt (iw l (n0+1)) i).size<=1000000/\(eO (iw l (n0+1)) i).size<=1000000:=λi hi=>by
   have e:(iw l (n0+1)).getD i ([],[])=rO l i:=by simp[iw,hi]
   unfold nameAt eO;rw[e,fU,fU];have:=WS l i;omega
  have hE:=HE.out;have y1:W.cell? ⟨0,0,none⟩=some (.iface 352 (.pointer (some (ea 1)))):=(Ë.cell (p:=⟨0,0,none⟩) g1).trans hE.2.1;have y2:W.cell? ⟨3,0,none⟩=some (.iface 352 (.pointer (some (ea 2)))):=(Ë.cell (p:=⟨3,0,none⟩) g2).trans hE.2.2.1;have y3:W.cell? ⟨6,0,none⟩=some (.iface 352 (.pointer (some (ea 3)))):=(Ë.cell (p:=⟨6,0,none⟩) g3).trans hE.2.2.2;have c2:W.cell? ⟨w.heap.size+2,0,none⟩=some (.slice va (n0+1) vc):=by
   rw[Ń] at hv;simp[World.cell?,hv]
  have HB:=Đ Ë;have HR:Hid (_/\_/\_):=⟨ą,EI,hK⟩;have HOWN:=Đ hown';have HLEN:=Đ Ń;clear Ý Ϡ ϵ ĺ BF ό hE Ë ą EI hv hK Ń hown';by_cases h6:6<n0+1
  ·have qz:Hid _:=GJ W va (n0+1) vc h6 (by omega) (ea 1) y1;have k0:W.cell? ⟨w.heap.size,0,none⟩=some (.slice none 0 0):=by simp[World.cell?,HR.out.1]
   have k1:W.cell? ⟨w.heap.size+1,0,none⟩=some .nilIface:=by simp[World.cell?,HR.out.2.1]
   have z0:W.frozen? ⟨w.heap.size,0,none⟩=false:=by simp[World.frozen?,HR.out.1]
   have z1:W.frozen? ⟨w.heap.size+1,0,none⟩=false:=by simp[World.frozen?,HR.out.2.1]
   clear N8 ϟ y1 y2 y3;go_wp2_with fail;refine Calls.mono qz.out ?_;rintro e w1 ⟨rfl,Ϝ⟩;have bH:=Ϝ.symm;subst bH;go_wp2;obtain⟨q0,q1,q2⟩:=EG (a':=.slice none 0 0) (b':=.iface 352 (.pointer (some (ea 1)))) HR.out.1 HR.out.2.1;refine⟨by simp,.inl ⟨_,_,rfl,run_takeDeferred ((q2 _ (by omega) (by omega)).trans (by have:=HR.out.2.2;rwa [ĉ] at this)),?_⟩⟩;obtain⟨p0,p1⟩:=yN q0 q1 (.deferred none);refine⟨.tuple #[.slice none 0 0,.iface 352 (.pointer (some (ea 1)))],by simp[results,results58,go_sem,p0,p1],?_,.inr ⟨_,WZ.out,?_,?_,oI.out,.inl ⟨?_,rfl⟩⟩⟩
   ·exact ug ((HB.out.setCell (Nat.le_refl _) _).setCell (by simp) _) _ (by omega) _
   ·rw[HLEN.out];omega
   ·rw[HLEN.out];omega
   ·rw[HLEN.out];exact h6
  ·obtain⟨mm,Ρ,ϱ,Ϣ⟩:=zq (kR (nameAt (iw l (n0+1))) (eO (iw l (n0+1)))) (n0+1);have qz:Hid _:=Jt W va (n0+1) vc _ _ N8 ϟ (by omega) (by omega) mm Ρ ϱ Ϣ (ea 3) (ea 2) y3 y2;have iq:=Đ (And.intro ϱ Ϣ);clear N8 ϟ y1 y2 y3 ϱ Ϣ;go_wp2_with fail;refine Calls.mono qz.out ?_;rintro e w1 ⟨Ϗ,Ö⟩;have Ù:=Ϗ.size;have zx:=HB.out.size;have i4:w.heap.size+4<W.heap.size:=by have h:=HR.out.2.2;rw[ĉ] at h;exact (Array.getElem?_eq_some_iff.1 h).1
   have rA:w1.heap[w.heap.size]? = some (.cells #[.slice none 0 0] 119 (0,0))/\w1.heap[w.heap.size+1]? = some (.cells #[.nilIface] 26 (0,0))/\w1.heap[w.heap.size+4]? = some (.deferred (some [])):=
    ⟨(Ϗ.block _ (by omega)).trans HR.out.1,(Ϗ.block _ (by omega)).trans HR.out.2.1,(Ϗ.block _ (by omega)).trans (by have h:=HR.out.2.2;rwa [ĉ] at h)⟩
   have k0:w1.cell? ⟨w.heap.size,0,none⟩=some (.slice none 0 0):=by simp[World.cell?,rA.1]
   have k1:w1.cell? ⟨w.heap.size+1,0,none⟩=some .nilIface:=by simp[World.cell?,rA.2.1]
   have z0:w1.frozen? ⟨w.heap.size,0,none⟩=false:=by simp[World.frozen?,rA.1]
   have z1:w1.frozen? ⟨w.heap.size+1,0,none⟩=false:=by simp[World.frozen?,rA.2.1]
   have k2:w1.cell? ⟨w.heap.size+2,0,none⟩=some (.slice va (n0+1) vc):=(Ϗ.cell (p:=⟨w.heap.size+2,0,none⟩) (by show w.heap.size+2<W.heap.size;omega)).trans c2;have HR1:=Đ rA;have HB1:=Đ Ϗ;clear Ϗ rA c2;rcases Ö with⟨ZR,rfl⟩|⟨ZR,pb,rfl,ñ,p0,p1⟩
   ·have k2s:(w1.setCell ⟨w.heap.size,0,none⟩ (.slice va (n0+1) vc)).cell? ⟨w.heap.size+1,0,none⟩=some .nilIface:=by
     rw[World.cell?_setCell_other _ _ _ _ (by intro e;injection e with e1;omega)];exact k1
    go_wp2;obtain⟨q0,q1,q2⟩:=EG (a':=.slice va (n0+1) vc) (b':=.nilIface) HR1.out.1 HR1.out.2.1;refine⟨by simp,.inl ⟨_,_,rfl,run_takeDeferred ((q2 _ (by omega) (by omega)).trans HR1.out.2.2),?_⟩⟩;obtain⟨p0,p1⟩:=yN q0 q1 (.deferred none);refine⟨.tuple #[.slice va (n0+1) vc,.nilIface],by simp[results,results58,go_sem,p0,p1],?_,.inr ⟨_,WZ.out,?_,?_,oI.out,.inr ⟨?_,mm,?_,iq.out.1,?_,.inl ⟨?_,_,rfl,?_⟩⟩⟩⟩
    ·exact ug (((HB.out.trans (HB1.out.mono zx)).setCell (Nat.le_refl _) _).setCell (by simp) _) _ (by omega) _
    ·rw[HLEN.out];omega
    ·rw[HLEN.out];omega
    ·rw[HLEN.out];omega
    ·rw[HLEN.out];omega
    ·rw[HLEN.out];exact iq.out.2
    ·rw[HLEN.out];exact ZR
    ·rw[HLEN.out];have Ϝ:w1.ownsRow (w.heap.size+6) 123 2 (.slice va (n0+1) vc) (n0+1) (gZ (iw l (n0+1))):=by
      obtain⟨h1,h2⟩:=HOWN.out;refine⟨h1,?_⟩;rcases h2 with h2|⟨g,cap,cur,hv,hg,hh,t⟩
      ·exact .inl h2
      ·exact .inr ⟨g,cap,cur,hv,hg,(HB1.out.block _ (aC hh)).trans hh,t⟩
     have h3:=SB (CB (CB Ϝ w.heap.size 0 (by omega) (.slice va (n0+1) vc)) (w.heap.size+1) 0 (by omega) .nilIface) (w.heap.size+4) (by omega) (.deferred none);obtain⟨h1,h2⟩:=h3;refine⟨h1,?_⟩;rcases h2 with h2|⟨g,cap,cur,hv,hg,t⟩
     ·exact .inl h2
     ·exact .inr ⟨g,cap,cur,hv,by omega,t⟩
   ·have HP:Hid (_/\_/\_):=⟨ñ,p0,p1⟩;clear p0 p1;go_wp2;obtain⟨q0,q1,q2⟩:=EG (a':=.slice none 0 0) (b':=.iface 126 (.pointer (some ⟨pb,0,none⟩))) HR1.out.1 HR1.out.2.1;refine⟨by simp,.inl ⟨_,_,rfl,run_takeDeferred ((q2 _ (by omega) (by omega)).trans HR1.out.2.2),?_⟩⟩;obtain⟨p0,p1⟩:=yN q0 q1 (.deferred none);refine⟨.tuple #[.slice none 0 0,.iface 126 (.pointer (some ⟨pb,0,none⟩))],by simp[results,results58,go_sem,p0,p1],?_,.inr ⟨_,WZ.out,?_,?_,oI.out,.inr ⟨?_,mm,?_,iq.out.1,?_,.inr ⟨?_,pb,rfl,?_,?_,?_⟩⟩⟩⟩
    ·exact ug (((HB.out.trans (HB1.out.mono zx)).setCell (Nat.le_refl _) _).setCell (by simp) _) _ (by omega) _
    ·rw[HLEN.out];omega
    ·rw[HLEN.out];omega
    ·rw[HLEN.out];omega
    ·rw[HLEN.out];omega
    ·rw[HLEN.out];exact iq.out.2
    ·rw[HLEN.out];exact ZR
    ·have:=HP.out.1;omega
    ·exact (OQ _ (by have:=HP.out.1;omega) q2).trans HP.out.2.1
    ·exact (OQ _ (by have:=HP.out.1;omega) q2).trans HP.out.2.2
 case stop=>
  intro W Û hx hK;have HX:=Đ hx;have HK:=Đ hK;have WZ:Hid (scan l [] [] [] false=none):=WU l m (λi hi=>⟨HMT.out i (by omega),Uw.out i hi⟩) (abN.out Û);clear hx hK Ý Ϡ ϵ ĺ BF;go_wp2;refine⟨by simp,.inl ⟨_,_,rfl,run_takeDeferred (by have h:=HK.out;rwa [ĉ] at h),?_⟩⟩;obtain⟨p0,p1⟩:=yN HX.out.res HX.out.err (.deferred none);exact⟨.tuple #[.slice none 0 0,.iface 352 (.pointer (some (ea 0)))],by simp[results,results58,go_sem,ĉ,p0,p1],ug HX.out.aI _ (by omega) _,.inl ⟨WZ.out,rfl⟩⟩
end Go.Proofs.YtololnhfgjbhjaaGreatDoor
