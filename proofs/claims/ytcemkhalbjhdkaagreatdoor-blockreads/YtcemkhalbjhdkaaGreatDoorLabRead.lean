import Derived.Test.YtcemkhalbjhdkaaGreatDoorRefTicksGroup
import Derived.Shelf.RegionOpen
import Derived.Test.YtcemkhalbjhdkaaGreatDoorLabCutGroup
import Derived.OwnWalkIn
import Derived.TacticsInMore
import Derived.LoopNIn
import Derived.LoopIn
import Derived.RangeFuncNested
import Derived.RangeFuncBound
import Derived.RangeFuncCalls
import Derived.RangeFuncLeaves
import Derived.Shelf.Abstract
namespace Go.Proofs.YtcemkhalbjhdkaaGreatDoor
open Go.RowKit
variable {P:Program}
def EM (P:Program) (gf:Nat) (lb:Array Value) (encs:Nat->Array Value) (m n:Nat) (w:World):Prop:=
 ∀ (l:Nat) (J:Nat->World->Prop) (Jx:World->Prop) (W:World),Below w.heap.size w W ->
  (∀ k A q,J k A->J k (World.drewN A q)) ->
  (∀ k A,k<m->J k A->YieldAt Fence.wide 0 P l (encs k) A fun e A'=>e = .returned (.bool true)/\J (k+1) A') ->
  (∀ A,m<n->J m A->YieldAt Fence.wide 0 P l (encs m) A fun e A'=>e = .returned (.bool false)/\Jx A') ->
  J 0 W ->
  CallsIn Fence.wide 0 P gf (#[.func (.yield l) #[] #[]]++lb) W fun e W'=>(∃ v,e = .returned v)/\((m=n/\J n W')\/(m<n/\Jx W'))
def WW (R:World->Prop):Exit->Act->World->Prop
 | .normal,_,W=>R W
 | _,_,_=>False
def VK (R:World->Prop):Exit->Act->World->Prop
 | .ret,_,W=>R W
 | _,_,_=>False
theorem K3 {g:Operand} {ps:Array Tmp} {assign body:Code} {Q:Exit->Act->World->Prop} {a:Act} {w:World} {gf:Nat} {lb:Array Value}
  (hg:a.eval g = .func (.func gf) #[] lb) (eg:∀ args w,(callFunc gf args).run P w = .ok (.enter gf args) w)
  (m n:Nat) (encs:Nat->Array Value) (hps:∀ k,(encs k).size=ps.size) (hseq:EM P gf lb encs m n w)
  (I:Nat->World->Prop) (Ix:World->Prop)
  (Uj:∀ k A l o,w.heap.size<=l->l<=w.heap.size+1->I k A->I k (A.putObj l o)) (hId:∀ k A q,I k A->I k (World.drewN A q))
  (hXp:∀ A l o,w.heap.size<=l->l<=w.heap.size+1->Ix A->Ix (A.putObj l o))
  (h0:∀ o1 o2,I 0 ((w.alloc o1).alloc o2)) (a₁:Nat->Act)
  (hassign:∀ (l k:Nat) (W:World) (K:Act->World->Prop),K (a₁ k) W ->
   assign.wpIn (Fence.wide.inRound l) 0 P (Exit.then K (fun _ _ _=>False)) { tmps:=(ps.zip (encs k)).foldl (fun t (p,v)=>t.setIfInBounds p v) a.tmps,defers:=[] } W)
  (hbody:∀ (l k:Nat) (W:World),k<m->I k W->w.heap.size+1<W.heap.size ->
   body.wpIn (Fence.wide.inRound l) 0 P (WW fun W'=>I (k+1) W'/\W'.heap[w.heap.size]? = W.heap[w.heap.size]? /\ W'.heap[w.heap.size+1]? = W.heap[w.heap.size+1]?) (a₁ k) W)
  (hlast:∀ (l:Nat) (W:World),m<n->I m W->w.heap.size+1<W.heap.size ->
   body.wpIn (Fence.wide.inRound l) 0 P (VK fun W'=>Ix W'/\W'.heap[w.heap.size]? = W.heap[w.heap.size]? /\ W'.heap[w.heap.size+1]? = W.heap[w.heap.size+1]?) (a₁ m) W)
  (hdone:∀ (W:World),m=n->I n W->W.heap[w.heap.size]? = some (.deferred (some []))->Q .normal { a with defers:={ target:=.collected w.heap.size,args:=#[] }::a.defers } W)
  (hstop:∀ (W:World),m<n->Ix W->W.heap[w.heap.size]? = some (.deferred (some []))->Code.ret.wp P Q { a with defers:={ target:=.collected w.heap.size,args:=#[] }::a.defers } W) :
  (Code.rangeFunc g ps assign body).wp P Q a w:=by
 refine (wpIn_wide (n:=0)).1 (wpIn_rangeFunc ?_);intro fn hfn;obtain⟨rec,hrec⟩:∃ rec:LoopState->Option Code->Loop,rec=fun st pe=>{ state:=st,pending:=pe,fn,tmps:=a.tmps,params:=ps,assign,body,defers:=w.heap.size }:=⟨_,rfl⟩
 obtain⟨W1,hW1⟩:∃ W1,W1=(w.alloc (.deferred (some []))).alloc (.loop (rec .ready none)):=⟨_,rfl⟩;have hL1:W1.heap[w.heap.size+1]? = some (.loop (rec .ready none)):=by
  rw[hW1];have:=World.alloc_heap_new (w.alloc (.deferred (some []))) (.loop (rec .ready none));rwa [World.size_alloc] at this
 have hD1:W1.heap[w.heap.size]? = some (.deferred (some [])):=by
  rw[hW1];exact (Below.heap_alloc _ _ _ (by simp)).trans (World.alloc_heap_new w _)
 have hb1:Below w.heap.size w W1:=by rw[hW1];exact ((Below.refl _ w).alloc (Nat.le_refl _) _).alloc (by simp) _
 have hi1:I 0 W1:=by rw[hW1];exact h0 _ _
 refine⟨w.heap.size+1,[{ target:=.collected w.heap.size,args:=#[] }],W1,{ target:=.fn (.func gf) lb,args:=#[.func (.yield (w.heap.size+1)) #[] #[]] },W1,gf,
  #[.func (.yield (w.heap.size+1)) #[] #[]]++lb,W1,?_,?_,?_,?_,fun h=>by simp[Fence.wide] at h,?_⟩
 ·rw[hW1,hrec];exact run_enterLoop_outer _ _ _ _ _
 ·simp only[resolve,hg];simp[go_sem]
 ·intro f' _;trivial
 ·simp[invoke,go_sem,eg]
 ·refine CallsIn.mono (hseq (w.heap.size+1)
   (fun k W=>I k W/\W.heap[w.heap.size+1]? = some (.loop (rec .ready none))/\W.heap[w.heap.size]? = some (.deferred (some [])))
   (fun W=>Ix W/\W.heap[w.heap.size+1]? = some (.loop (rec .done (some .ret)))/\W.heap[w.heap.size]? = some (.deferred (some [])))
   W1 hb1 ?_ ?_ ?_ ⟨hi1,hL1,hD1⟩) ?_
  ·rintro k A q ⟨hi,hl,hd⟩;exact⟨hId k A q hi,hl,hd⟩
  ·rintro k A hk ⟨hi,hl,hd⟩;have hal:=(Array.getElem?_eq_some_iff.1 hl).1;have hy:=run_yield (P:=P) (args:=encs k) hl (by rw[hrec];exact hps k);rw[hrec] at hy;refine⟨fn,_,assign,body,hy,roundIn_of_wpIn hfn (hassign _ k A _ ?_)⟩;clear hy;refine⟨_,run_beginRound hl (by rw[hrec]),?_⟩;obtain⟨Ab,sV⟩:∃ Ab,Ab=A.putObj (w.heap.size+1) (.loop { rec .ready none with state:=.busy }):=⟨_,rfl⟩;rw[<-sV];have hsb:Ab.heap.size=A.heap.size:=by rw[sV];simp
   have hlb:Ab.heap[w.heap.size+1]? = some (.loop { rec .ready none with state:=.busy }):=by rw[sV];exact World.putObj_heap_same (by omega)
   have hdb:Ab.heap[w.heap.size]? = some (.deferred (some [])):=by rw[sV,World.putObj_heap_other (by omega)];exact hd
   have hib:I k Ab:=by rw[sV];exact Uj k A _ _ (by omega) (by omega) hi
   refine wpIn_mono (hbody _ k Ab hk hib (by omega)) ?_;rintro e a3 W3 hp;cases e with
   | normal=>
    obtain⟨hi3,hd3,hl3⟩:=hp;have I6:=hl3.trans hlb;have abZ:=(Array.getElem?_eq_some_iff.1 I6).1;refine⟨_,_,run_endRound (P:=P) none I6,rfl,Uj _ _ _ _ (by omega) (by omega) hi3,?_,?_⟩
    ·rw[World.putObj_heap_same (by omega),hrec];rfl
    ·rw[World.putObj_heap_other (by omega)];exact hd3.trans hdb
   | ret=>exact hp.elim
   | exit id=>exact hp.elim
   | goto t=>exact hp.elim
   | panic ch=>exact hp.elim
   | outgrown=>exact hp.elim
  ·rintro A hmn ⟨hi,hl,hd⟩;have hal:=(Array.getElem?_eq_some_iff.1 hl).1;have hy:=run_yield (P:=P) (args:=encs m) hl (by rw[hrec];exact hps m);rw[hrec] at hy;refine⟨fn,_,assign,body,hy,roundIn_of_wpIn hfn (hassign _ m A _ ?_)⟩;clear hy;refine⟨_,run_beginRound hl (by rw[hrec]),?_⟩;obtain⟨Ab,sV⟩:∃ Ab,Ab=A.putObj (w.heap.size+1) (.loop { rec .ready none with state:=.busy }):=⟨_,rfl⟩;rw[<-sV];have hsb:Ab.heap.size=A.heap.size:=by rw[sV];simp
   have hlb:Ab.heap[w.heap.size+1]? = some (.loop { rec .ready none with state:=.busy }):=by rw[sV];exact World.putObj_heap_same (by omega)
   have hdb:Ab.heap[w.heap.size]? = some (.deferred (some [])):=by rw[sV,World.putObj_heap_other (by omega)];exact hd
   have hib:I m Ab:=by rw[sV];exact Uj m A _ _ (by omega) (by omega) hi
   refine wpIn_mono (hlast _ Ab hmn hib (by omega)) ?_;rintro e a3 W3 hp;cases e with
   | ret=>
    obtain⟨hi3,hd3,hl3⟩:=hp;have I6:=hl3.trans hlb;have abZ:=(Array.getElem?_eq_some_iff.1 I6).1;refine⟨_,_,run_endRound (P:=P) (some .ret) I6,rfl,hXp _ _ _ (by omega) (by omega) hi3,?_,?_⟩
    ·rw[World.putObj_heap_same (by omega),hrec];rfl
    ·rw[World.putObj_heap_other (by omega)];exact hd3.trans hdb
   | normal=>exact hp.elim
   | exit id=>exact hp.elim
   | goto t=>exact hp.elim
   | panic ch=>exact hp.elim
   | outgrown=>exact hp.elim
  ·rintro e W2 ⟨⟨v,rfl⟩,h⟩;rcases h with⟨hmn,hi,hl,hd⟩|⟨hmn,hi,hl,hd⟩
   ·refine⟨none,_,by have:=run_endLoop (P:=P) hl (by rw[hrec];simp);rw[hrec] at this;exact this,hdone _ hmn (Uj _ _ _ _ (by omega) (by omega) hi) ((World.putObj_heap_other (by omega)).trans hd)⟩
   ·refine⟨some .ret,_,by have:=run_endLoop (P:=P) hl (by rw[hrec];simp);rw[hrec] at this;exact this,?_⟩;exact wpIn_wide.2 (hstop _ hmn (hXp _ _ _ (by omega) (by omega) hi) ((World.putObj_heap_other (by omega)).trans hd))
end Go.Proofs.YtcemkhalbjhdkaaGreatDoor
set_option maxRecDepth 100000
set_option maxHeartbeats 2000000
namespace Go.Proofs.YtcemkhalbjhdkaaGreatDoor
open Go.RowKit Go.Shelf aU
attribute [local go_sem] Oper.semAt_some
def Nh:Value->Nat
 | .string s=>s.size
 | _=>0
def Ni:Value->Nat
 | .bool true=>1
 | _=>0
theorem Nj (s:ByteArray) (w:World) :
  Calls Tryz.prog 123 #[.string s] w fun e w'=>e = .returned (.func (.func 153) #[] #[.pointer (some ⟨w.heap.size,0,none⟩)])/\w'=w.alloc (.cells #[.string s] 9):=by
 go_enter Tryz.func123,Tryz.ntmps123;go_wp2;go_ret;exact⟨rfl,rfl⟩
theorem Ho (Bn:Nat) (s:ByteArray) (w:World) (hs:s.size<=1000000) (m n:Nat) (hm:m<=n) (hn1:1<=n) (hmore:∀ i,i<n->lU s.data.toList i=decide (i+1<n))
  (Cx:w.cell? ⟨Bn,0,none⟩=some (.string s)) :
  EM Tryz.prog 153 #[.pointer (some ⟨Bn,0,none⟩)] (fun k=>#[.string (txt (jS s.data.toList k))]) m n w:=by
 intro l J Jx W hbW hJd Pt hJx hJ0;have WX:Bn<w.heap.size:=World.block_lt_of_cell? w ⟨Bn,0,none⟩ Cx;have Nk:W.cell? ⟨Bn,0,none⟩=some (.string s):=(hbW.cell (p:=⟨Bn,0,none⟩) WX).trans Cx;have hsz:∀ k,(txt (fI s.data.toList k)).size<=1000000:=fun k=>by
  rw[bB];have h1:=EN s.data.toList k;have h2:s.data.toList.length=s.size:=Array.length_toList;omega
 have eY:=(show Hid _ from hsz);have HJd:=(show Hid _ from hJd);have WY:=(show Hid _ from Pt);have HJx:=(show Hid _ from hJx);have HJ0:=(show Hid _ from hJ0);have HM:=(show Hid _ from hmore);clear hJ0 hJd Pt hJx hmore hsz Cx hbW;refine callsIn_of_wp Tryz.func153 rfl trivial ?_ rfl;simp only[Tryz.ntmps153,List.size_toArray,List.length_cons,List.length_nil,Nat.reduceAdd,Nat.reduceSub,Array.replicate_succ,Array.replicate_zero,List.push_toArray,List.append_toArray,List.nil_append,List.cons_append];gi_wp2;gi_loopw [3,4,5] (fun r f _ wr=>∃ k:Nat,k<=m/\r = .string (txt (fI s.data.toList k))/\f = .bool (decide (k<n))/\J k wr) (fun r f _ _=>Nh r+Ni f);case atStart=>exact⟨0,Nat.zero_le _,rfl,by simp;omega,HJ0.out⟩
 case round=>
  obtain⟨k,hkm,rfl,rfl,hJ⟩:=hrel;have HJ:=(show Hid _ from hJ);clear hJ HJ0;by_cases hkn:k<n
  ·rw[show decide (k<n)=true from decide_eq_true hkn];have hcut:=fun w0=>VL (txt (fI s.data.toList k)) w0 (eY.out k)
   have hp:txt (aI 44 (txt (fI s.data.toList k)).data.toList).1=txt (jS s.data.toList k):=rfl;have hr:txt (aI 44 (txt (fI s.data.toList k)).data.toList).2.1=txt (fI s.data.toList (k+1)):=rfl;have hf:(aI 44 (txt (fI s.data.toList k)).data.toList).2.2=lU s.data.toList k:=rfl;rw[hp,hr,hf,HM.out k hkn] at hcut;have xu:=(show Hid _ from hcut);have Uk:(fI s.data.toList (k+1)).length+(if k+1<n then 1 else 0)<(fI s.data.toList k).length+1:=by
    have hc:=jh 44 (fI s.data.toList k);have hmk:=HM.out k hkn;by_cases hk1:k+1<n
    ·rw[decide_eq_true hk1] at hmk;have:=hc.2.2 hmk;rw[if_pos hk1];simp only[fI];omega
    ·rw[decide_eq_false hk1] at hmk;have hz:fI s.data.toList (k+1) = []:=FV 44 _ hmk;rw[if_neg hk1,hz];simp
   have ZA:=(show Hid _ from Uk);clear hcut hp hr hf Uk;have hrs:(txt (fI s.data.toList k)).size=(fI s.data.toList k).length:=bB _;generalize txt (fI s.data.toList k)=r0 at *;have Ja:=(show Hid _ from hrs);clear hrs;gi_wp2_with fail;refine⟨trivial,rfl,?_⟩;refine CallsIn.mono (callsIn_wide.2 (xu.out _)) ?_;rintro e w1 ⟨rfl,q,rfl⟩;have Jb:=HJd.out k wr q HJ.out;by_cases hlt:k<m
   ·obtain⟨fn,tmps,assign,body,hy,hR⟩:=WY.out k _ hlt Jb;have HR:=(show Hid _ from hR);clear hR Jb;gi_wp2;refine⟨rfl,?_⟩;refine RoundIn.mono HR.out ?_;rintro e W3 ⟨rfl,hJ3⟩;have WZ:=(show Hid _ from hJ3);clear hJ3 hy;gi_wp2;go_roundw;case rel=>exact⟨k+1,by omega,rfl,rfl,WZ.out⟩
    case measure=>
     have h1:=ZA.out;have h2:=Ja.out;have h3:(txt (fI s.data.toList (k+1))).size=(fI s.data.toList (k+1)).length:=bB _;by_cases hk1:k+1<n
     ·rw[if_pos hk1] at h1;simp[Nh,Ni,hk1];omega
     ·rw[if_neg hk1] at h1;simp[Nh,Ni,hk1];omega
   ·have Ip:k=m:=by omega
    subst Ip;obtain⟨fn,tmps,assign,body,hy,hR⟩:=HJx.out _ hkn Jb;have HR:=(show Hid _ from hR);clear hR Jb;gi_wp2;refine⟨rfl,?_⟩;refine RoundIn.mono HR.out ?_;rintro e W3 ⟨rfl,hJ3⟩;have WZ:=(show Hid _ from hJ3);clear hJ3 hy;gi_wp2;exact bodyPost_ret (v:=.tuple #[]) (results_none rfl _ _ _) rfl ⟨⟨_,rfl⟩,.inr ⟨hkn,WZ.out⟩⟩
  ·have h1:k=n:=by omega
   have h2:m=n:=by omega
   rw[show decide (k<n)=false from decide_eq_false hkn];subst h1;gi_wp2;go_end0;exact⟨⟨_,rfl⟩,.inl ⟨h2,HJ.out⟩⟩
end Go.Proofs.YtcemkhalbjhdkaaGreatDoor
set_option maxRecDepth 100000
set_option maxHeartbeats 4000000
namespace Go.Proofs.YtcemkhalbjhdkaaGreatDoor
open Go.RowKit Go.Shelf aU
attribute [local go_sem] Oper.semAt_some
structure Cy (s0:Nat) (w:World) (l:List UInt8) (k:Nat) (W:World):Prop where
 bg:Below s0 w W
 res:W.heap[s0]? = some (.cells #[.slice none 0 0] 97 (0,0))
 err:W.heap[s0+1]? = some (.cells #[.nilIface] 27 (0,0))
 row:∃ v,W.heap[s0+2]? = some (.cells #[v] 97 (0,0))/\W.ownsRow (s0+6) 130 2 v k (dL (fZ l k))
structure H6 (s0:Nat) (w:World) (a:Addr) (W:World):Prop where
 bg:Below s0 w W
 res:W.heap[s0]? = some (.cells #[.slice none 0 0] 97 (0,0))
 err:W.heap[s0+1]? = some (.cells #[.iface 311 (.pointer (some a))] 27 (0,0))
theorem LM {w:World} {base:Nat} {e:TypeId} {sz:Nat} {v:Value} {n:Nat} {xs:List Value} (h:w.ownsRow base e sz v n xs) (b:Nat) (hb:b<base) (o:Obj):(w.putObj b o).ownsRow base e sz v n xs:=by
 obtain⟨h1,h2⟩:=h;refine⟨h1,?_⟩;rcases h2 with h2 | ⟨g,cap,cur,hv,hg,hh,t⟩
 ·exact .inl h2
 ·exact .inr ⟨g,cap,cur,hv,hg,by rw[World.putObj_heap_other (by omega)];exact hh,t⟩
theorem qb {s0:Nat} {w W:World} (h:Below s0 w W) (b:Nat) (hb:s0<=b) (o:Obj):Below s0 w (W.putObj b o):=
 h.trans ⟨rfl,rfl,rfl,by simp,fun k hk=>World.putObj_heap_other (by omega)⟩
theorem Cy.put {s0:Nat} {w:World} {l:List UInt8} {k:Nat} {W:World} (h:Cy s0 w l k W) (b:Nat) (o:Obj) (h1:s0+4<=b) (h2:b<=s0+5):Cy s0 w l k (W.putObj b o):=by
 obtain⟨hb,hr,he,v,hv,ho⟩:=h;exact⟨qb hb b (by omega) o,(World.putObj_heap_other (by omega)).trans hr,(World.putObj_heap_other (by omega)).trans he,v,(World.putObj_heap_other (by omega)).trans hv,LM ho b (by omega) o⟩
theorem Cy.drewN {s0:Nat} {w:World} {l:List UInt8} {k:Nat} {W:World} (h:Cy s0 w l k W) (q:Nat):Cy s0 w l k (W.drewN q):=
 ⟨below_draws h.bg q,h.res,h.err,h.row⟩
theorem H6.put {s0:Nat} {w:World} {a:Addr} {W:World} (h:H6 s0 w a W) (b:Nat) (o:Obj) (h1:s0+4<=b):H6 s0 w a (W.putObj b o):=
 ⟨qb h.bg b (by omega) o,(World.putObj_heap_other (by omega)).trans h.res,(World.putObj_heap_other (by omega)).trans h.err⟩
theorem uN {X:World} {s0:Nat} {a b:Value} (h0:X.heap[s0]? = some (.cells #[a] 97 (0,0))) (h1:X.heap[s0+1]? = some (.cells #[b] 27 (0,0))) (o:Obj) :
  (X.putObj (s0+4) o).cell? ⟨s0,0,none⟩=some a/\(X.putObj (s0+4) o).cell? ⟨s0+1,0,none⟩=some b:=by
 have e0:(X.putObj (s0+4) o).heap[s0]? = some (.cells #[a] 97 (0,0)):=(World.putObj_heap_other (by omega)).trans h0;have e1:(X.putObj (s0+4) o).heap[s0+1]? = some (.cells #[b] 27 (0,0)):=(World.putObj_heap_other (by omega)).trans h1;simp only[World.cell?,e0,e1];exact⟨rfl,rfl⟩
theorem Aa {X:World} {s0:Nat} {a b a' b':Value} (h0:X.heap[s0]? = some (.cells #[a] 97 (0,0))) (h1:X.heap[s0+1]? = some (.cells #[b] 27 (0,0))) :
  ((X.setCell ⟨s0,0,none⟩ a').setCell ⟨s0+1,0,none⟩ b').heap[s0]? = some (.cells #[a'] 97 (0,0))/\((X.setCell ⟨s0,0,none⟩ a').setCell ⟨s0+1,0,none⟩ b').heap[s0+1]? = some (.cells #[b'] 27 (0,0)) /\
  (∀ k,k≠s0->k≠s0+1->((X.setCell ⟨s0,0,none⟩ a').setCell ⟨s0+1,0,none⟩ b').heap[k]? = X.heap[k]?):=by
 refine⟨?_,?_,fun k k0 k1=>?_⟩
 ·rw[Below.heap_setCell _ _ _ _ (by show s0≠s0+1;omega),dx h0 0 _];rfl
 ·rw[dx ((Below.heap_setCell _ _ _ _ (by show s0+1≠s0;omega)).trans h1) 0 _];rfl
 ·rw[Below.heap_setCell _ _ _ _ k1,Below.heap_setCell _ _ _ _ k0]
theorem Jc {X Y:World} {s0 b i:Nat} (o:Obj) (hb:s0+4<b) (h:∀ k,k≠s0->k≠s0+1->Y.heap[k]? = X.heap[k]?):(Y.putObj (s0+4) o).cell? ⟨b,i,none⟩=X.cell? ⟨b,i,none⟩:=by
 have e:(Y.putObj (s0+4) o).heap[b]? = X.heap[b]?:=(World.putObj_heap_other (by omega)).trans (h b (by omega) (by omega));simp only[World.cell?,e]
def RP (w w':World) (l:List UInt8) (ea:Nat->Addr) (e:Ending):Prop:=
 Below w.heap.size w w'/\((scan l [] [] [] false=none/\e = .returned (.tuple #[.slice none 0 0,.iface 311 (.pointer (some (ea 0)))])) \/
  ∃ out:List (List UInt8×List UInt8),scan l [] [] [] false=some out/\1<=out.length/\out.length<=l.length+1/\(∀ p,p∈out->p.1.length<=l.length/\p.2.length<=l.length) /\
   ((6<out.length/\e = .returned (.tuple #[.slice none 0 0,.iface 311 (.pointer (some (ea 1)))])) \/
   (out.length<=6/\∃ m,m<=out.length/\(∀ i,i<m->jg (nameAt out) (dG out) i=true)/\(m<out.length->jg (nameAt out) (dG out) m=false) /\
    ((m=out.length/\∃ v,e = .returned (.tuple #[v,.nilIface])/\w'.ownsRow w.heap.size 130 2 v out.length (dL out)) \/
     (m<out.length/\∃ pb:Nat,e = .returned (.tuple #[.slice none 0 0,.iface 116 (.pointer (some ⟨pb,0,none⟩))])/\w.heap.size<=pb/\w'.cell? ⟨pb,0,none⟩=some (.int .i64 (m:Int))/\w'.cell? ⟨pb,1,none⟩=some (.iface 311 (.pointer (some (if (isName (nameAt out m)&&isWord (dG out m))=true then ea 2 else ea 3)))))))))
theorem Pv (s:ByteArray) (w:World) (hs:s.size<=100000) (ea:Nat->Addr) (e0:w.cell? ⟨1,0,none⟩=some (.iface 311 (.pointer (some (ea 0))))) (e1:w.cell? ⟨0,0,none⟩=some (.iface 311 (.pointer (some (ea 1)))))
  (e2:w.cell? ⟨2,0,none⟩=some (.iface 311 (.pointer (some (ea 2))))) (e3:w.cell? ⟨3,0,none⟩=some (.iface 311 (.pointer (some (ea 3))))) :
  Calls Tryz.prog 97 #[.string s] w fun e w'=>RP w w' s.data.toList ea e:=by
 obtain⟨l,hl⟩:∃ l,l=s.data.toList:=⟨_,rfl⟩;have hll:l.length=s.size:=by rw[hl];exact Array.length_toList
 obtain⟨n0,hn0,hmt,LP⟩:=Po l;obtain⟨m,hm,hhas,Ul⟩:=rQ (z8 l) (n0+1);have hmore:∀ i,i<n0+1->lU l i=decide (i+1<n0+1):=fun i hi=>by
  rcases Nat.lt_or_ge i n0 with h | h
  ·rw[hmt i h];simp;omega
  ·have:i=n0:=by omega
   subst this;rw[LP];simp
 have HL:=(show Hid _ from hl);have HMT:=(show Hid _ from hmt);have W9:=(show Hid _ from LP);have ZB:=(show Hid _ from hmore);have Nl:=(show Hid _ from hhas);have Um:=(show Hid _ from Ul);have g0:1<w.heap.size:=World.block_lt_of_cell? w ⟨1,0,none⟩ e0;have g1:0<w.heap.size:=World.block_lt_of_cell? w ⟨0,0,none⟩ e1;have g2:2<w.heap.size:=World.block_lt_of_cell? w ⟨2,0,none⟩ e2;have g3:3<w.heap.size:=World.block_lt_of_cell? w ⟨3,0,none⟩ e3;have HE:Hid (_/\_/\_/\_):=⟨e0,e1,e2,e3⟩;have DI:Hid _:=fun w0=>Nj s w0
 rw[<-hl];clear hl hmt LP hmore hhas Ul e0 e1 e2 e3;refine callsIn_wide.1 (callsIn_of_wp_marks (n:=0) Tryz.func97 rfl trivial (wpIn_wide.2 ?_));simp only[Tryz.ntmps97,List.size_toArray,List.length_cons,List.length_nil,Nat.reduceAdd,Nat.reduceSub,Array.replicate_succ,Array.replicate_zero,List.push_toArray,List.append_toArray,List.nil_append,List.cons_append];go_wp2_with fail;refine Calls.mono (DI.out _) ?_;rintro e w1 ⟨rfl,rfl⟩;go_wp2;obtain⟨W0,hW0⟩:∃ W0,W0=(((w.alloc (.cells #[.slice none 0 0] 97)).alloc (.cells #[.nilIface] 27)).alloc (.cells #[.slice none 0 0] 97)).alloc (.cells #[.string s] 9):=⟨_,rfl⟩;have hs0:W0.heap.size=w.heap.size+4:=by rw[hW0];simp
 have hb0:Below w.heap.size w W0:=by rw[hW0];exact ((((Below.refl _ _).alloc (Nat.le_refl _) _).alloc (by simp) _).alloc (by simp;omega) _).alloc (by simp;omega) _
 have hr0:W0.heap[w.heap.size]? = some (.cells #[.slice none 0 0] 97 (0,0)):=by
  rw[hW0,Below.heap_alloc _ _ _ (by simp;omega),Below.heap_alloc _ _ _ (by simp;omega),Below.heap_alloc _ _ _ (by simp)];exact heap_alloc_new _ _
 have hr1:W0.heap[w.heap.size+1]? = some (.cells #[.nilIface] 27 (0,0)):=by
  rw[hW0,Below.heap_alloc _ _ _ (by simp),Below.heap_alloc _ _ _ (by simp)];have:=heap_alloc_new (w.alloc (.cells #[.slice none 0 0] 97)) (.cells #[.nilIface] 27);simpa using this
 have hr2:W0.heap[w.heap.size+2]? = some (.cells #[.slice none 0 0] 97 (0,0)):=by
  rw[hW0,Below.heap_alloc _ _ _ (by simp)];have:=heap_alloc_new ((w.alloc (.cells #[.slice none 0 0] 97)).alloc (.cells #[.nilIface] 27)) (.cells #[.slice none 0 0] 97);simpa using this
 have hr3:W0.heap[w.heap.size+3]? = some (.cells #[.string s] 9 (0,0)):=by
  rw[hW0];have:=heap_alloc_new (((w.alloc (.cells #[.slice none 0 0] 97)).alloc (.cells #[.nilIface] 27)).alloc (.cells #[.slice none 0 0] 97)) (.cells #[.string s] 9);simpa using this
 rw[<-hW0];clear hW0;have xR:EM Tryz.prog 153 #[.pointer (some ⟨w.heap.size+3,0,none⟩)] (fun k=>#[.string (txt (jS l k))]) m (n0+1) W0:=by
  rw[HL.out];refine Ho (w.heap.size+3) s W0 (by omega) m (n0+1) hm (by omega) ?_ (by simp[World.cell?,hr3]);rw[<-HL.out];exact ZB.out
 refine K3 (gf:=153) (lb:=#[.pointer (some ⟨w.heap.size+3,0,none⟩)]) rfl (enters_of Tryz.func153 (by kernel_rfl) rfl) m (n0+1) (fun k=>#[.string (txt (jS l k))]) (fun _=>rfl) xR
  (Cy w.heap.size w l) (H6 w.heap.size w (ea 0)) ?ab0 ?ZC ?ab1 ?start
  (fun k=>{ tmps:=#[.string s,undef,.pointer (some ⟨w.heap.size,0,none⟩),.pointer (some ⟨w.heap.size+1,0,none⟩),.pointer (some ⟨w.heap.size+2,0,none⟩),.string (txt (jS l k)),undef,undef,undef,undef,.string s,.func (.func 153) #[] #[.pointer (some ⟨w.heap.size+3,0,none⟩)],.string (txt (jS l k)),undef,undef,undef,undef,undef,undef,undef,undef,undef,undef,undef,undef,undef,undef,undef,undef,undef,undef,undef,undef,undef],defers:=[] })
  ?assign ?body ?last ?done ?stop
 case ab0=>intro k A b o h1 h2 h;exact h.put b o (by omega) (by omega)
 case ZC=>intro k A q h;exact h.drewN q
 case ab1=>intro A b o h1 _ h;exact h.put b o (by omega)
 case start=>
  intro o1 o2;refine⟨(hb0.alloc (by omega) _).alloc (by simp;omega) _,?_,?_,.slice none 0 0,?_,?_⟩
  ·rw[Below.heap_alloc _ _ _ (by simp;omega),Below.heap_alloc _ _ _ (by omega)];exact hr0
  ·rw[Below.heap_alloc _ _ _ (by simp;omega),Below.heap_alloc _ _ _ (by omega)];exact hr1
  ·rw[Below.heap_alloc _ _ _ (by simp;omega),Below.heap_alloc _ _ _ (by omega)];exact hr2
  ·exact⟨by simp[dL,fZ],.inl ⟨rfl,rfl⟩⟩
 case assign=>
  intro lp k W K hK;gi_wp2;exact hK
 case body=>
  intro lp k W hkm hon hlt;obtain⟨hbel,hres,Ac,v,hv,hown⟩:=hon;have hcut:=fun w0=>LJ (txt (jS l k)) w0 (by rw[bB];have:=Bh l k;omega)
  have hh:=Nl.out k hkm;have hf:(aI 61 (txt (jS l k)).data.toList).2.2=z8 l k:=rfl;have hn:txt (aI 61 (txt (jS l k)).data.toList).1=txt (oI l k).1:=rfl;have hvv:txt (aI 61 (txt (jS l k)).data.toList).2.1=txt (oI l k).2:=rfl;rw[hf,hn,hvv,hh] at hcut;have xu:=(show Hid _ from hcut);clear hcut hf hn hvv hh hr0 hr1 hr2 hr3 xR;gi_wp2_with fail;refine⟨trivial,rfl,?_⟩;refine CallsIn.mono (CallsIn.inRound lp (callsIn_wide.2 (xu.out _))) ?_;rintro e w2 ⟨rfl,q,hq⟩;have HW2:Hid (w2.heap=W.heap/\Below w.heap.size w w2):=by rw[hq];exact⟨rfl,below_draws hbel q⟩
  have hv2:w2.heap[w.heap.size+2]? = some (.cells #[v] 97 (0,0)):=by rw[hq];exact hv
  have hown2:w2.ownsRow (w.heap.size+6) 130 2 v k (dL (fZ l k)):=by rw[hq];exact hown
  have HS2:Hid (w2.heap.size=W.heap.size):=by rw[hq];exact Eq.refl W.heap.size
  clear hq;have c0:w2.cell? ⟨w.heap.size+2,0,none⟩=some v:=by simp[World.cell?,hv2]
  obtain⟨i0,hi,hz0,hz1,hz2⟩:=info_parts Tryz.infoLabel;have HI:=(show Hid _ from hi);clear hi;have eX:(w2.alloc (.cells #[.string (txt (oI l k).1),.string (txt (oI l k).2)] 130)).ownsRow (w.heap.size+6) 130 2 v k (dL (fZ l k)):=hown2.alloc _;gi_wp2_with (gi_at_builtin;refine wpListIn_append_own _ rfl _ _ 97 rfl (w.heap.size+6) 130 i0 (.agg #[.string ⟨#[]⟩,.string ⟨#[]⟩]) 2 32 Tryz.underlying97 HI.out hz0 hz1 hz2 rfl (by decide) _ _ _ rfl eX ⟨w2.heap.size,0,none⟩ 1 1 [.string (txt (oI l k).1),.string (txt (oI l k).2)] rfl rfl (World.news_of_block (heap_alloc_new w2 _)) ?c2 ?c3 ?c4 ?c5 ?_);case c2=>first | exact⟨rfl,rfl⟩ | (intro q hq;simp at hq;rcases hq with rfl | rfl<;>rfl)
  case c3=>unfold maxLen;omega
  case c4=>omega
  case c5=>have:=HS2.out;simp;omega
  intro v' w3 hown3 hgrow _;rw[tY (fZ l k) (oI l k),<-xq] at hown3;have hS2:=HS2.out;have rR:∀ b,b<w.heap.size+6->w3.heap[b]? = W.heap[b]?:=fun b hb=>by
   have h1:(w2.alloc (.cells #[.string (txt (oI l k).1),.string (txt (oI l k).2)] 130)).heap[b]? = W.heap[b]?:=by
    rw[Below.heap_alloc _ _ _ (by omega),HW2.out.1]
   rw[hgrow.block b (by simp;omega) ?_,h1];intro e;rcases hown2.2 with⟨hv',_⟩|⟨g,cap,cur,hv',hgb,_⟩
   ·rw[hv'] at e;simp[Value.ownBlock] at e
   ·rw[hv'] at e;simp[Value.ownBlock] at e;omega
  have Un:Below w.heap.size w w3:=by
   have h2:=HW2.out.2;refine⟨hgrow.os.trans h2.os,hgrow.tape.trans h2.tape,hgrow.output.trans h2.output,?_,fun b hb=>?_⟩
   ·have h3:=hgrow.size;have h4:=h2.size;simp at h3;omega
   ·rw[rR b (by omega)];exact hbel.block b hb
  have hr3:w3.heap[w.heap.size+2]? = some (.cells #[v] 97 (0,0)):=(rR _ (by omega)).trans hv;have d0:w3.cell? ⟨w.heap.size+2,0,none⟩=some v:=by simp[World.cell?,hr3]
  have f0:w3.frozen? ⟨w.heap.size+2,0,none⟩=false:=by simp[World.frozen?,hr3]
  obtain⟨ao,n',cap,hv'⟩:∃ ao n' cap,v' = .slice ao n' cap:=by
   rcases hown3.2 with⟨hv',_⟩|⟨g,cap,cur,hv',_⟩
   ·exact⟨_,_,_,hv'⟩
   ·exact⟨_,_,_,hv'⟩
  have HV':=(show Hid _ from hv');have xw:=(show Hid _ from rR);have ZE:=(show Hid _ from Un);have yL:=(show Hid _ from hown3);have mh:Hid (_/\_):=⟨hres,Ac⟩;have HR3:=(show Hid _ from hr3);clear rR Un hown3 hgrow hown2 eX hres Ac hv hown c0 hv2 hbel hr3;subst hv';gi_wp2;refine⟨⟨ZE.out.setCell (by simp) _,?_,?_,.slice ao n' cap,?_,?_⟩,?_,?_⟩
  ·rw[Below.heap_setCell _ _ _ _ (by show w.heap.size≠w.heap.size+2;omega),xw.out _ (by omega)];exact mh.out.1
  ·rw[Below.heap_setCell _ _ _ _ (by show w.heap.size+1≠w.heap.size+2;omega),xw.out _ (by omega)];exact mh.out.2
  ·rw[dx HR3.out 0 _];rfl
  ·exact mg yL.out _ _ (by omega) _
  ·rw[Below.heap_setCell _ _ _ _ (by show w.heap.size+4≠w.heap.size+2;omega),xw.out _ (by omega)]
  ·rw[Below.heap_setCell _ _ _ _ (by show w.heap.size+4+1≠w.heap.size+2;omega),xw.out _ (by omega)]
 case last=>
  intro lp W hmn hon hlt;obtain⟨hbel,hres,Ac,v,hv,hown⟩:=hon;have hcut:=fun w0=>LJ (txt (jS l m)) w0 (by rw[bB];have:=Bh l m;omega)
  have hh:=Um.out hmn;have hf:(aI 61 (txt (jS l m)).data.toList).2.2=z8 l m:=rfl;have hn:txt (aI 61 (txt (jS l m)).data.toList).1=txt (oI l m).1:=rfl;have hvv:txt (aI 61 (txt (jS l m)).data.toList).2.1=txt (oI l m).2:=rfl;rw[hf,hn,hvv,hh] at hcut;have xu:=(show Hid _ from hcut);clear hcut hf hn hvv hh hr0 hr1 hr2 hr3 xR hv hown;gi_wp2_with fail;refine⟨trivial,rfl,?_⟩;refine CallsIn.mono (CallsIn.inRound lp (callsIn_wide.2 (xu.out _))) ?_;rintro e w2 ⟨rfl,q,hq⟩;have HW2:Hid (w2.heap=W.heap/\Below w.heap.size w w2):=by rw[hq];exact⟨rfl,below_draws hbel q⟩
  have hres2:w2.heap[w.heap.size]? = some (.cells #[.slice none 0 0] 97 (0,0)):=by rw[hq];exact hres
  have H7:w2.heap[w.heap.size+1]? = some (.cells #[.nilIface] 27 (0,0)):=by rw[hq];exact Ac
  have hb2:Below w.heap.size w w2:=HW2.out.2;have k0:w2.cell? ⟨w.heap.size,0,none⟩=some (.slice none 0 0):=by simp[World.cell?,hres2]
  have k1:w2.cell? ⟨w.heap.size+1,0,none⟩=some .nilIface:=by simp[World.cell?,H7]
  have z0:w2.frozen? ⟨w.heap.size,0,none⟩=false:=by simp[World.frozen?,hres2]
  have z1:w2.frozen? ⟨w.heap.size+1,0,none⟩=false:=by simp[World.frozen?,H7]
  have x0:w2.cell? ⟨1,0,none⟩=some (.iface 311 (.pointer (some (ea 0)))):=(hb2.cell (p:=⟨1,0,none⟩) g0).trans HE.out.1;have HX:Hid (_/\_/\_):=⟨hb2,hres2,H7⟩;clear hq hbel hres Ac hb2 hres2 H7;have ab2:Tryz.prog.follows .mixedOrders=true:=by kernel_rfl
  have hwl:=HX.out.1.size;gi_wp2_with fail;gi_region_o;all_goals
   gi_wp2;have hX:=HX.out;refine⟨⟨(((hX.1.setCell (Nat.le_refl _) _).setCell (by simp) _).trans ⟨rfl,rfl,rfl,Nat.le_refl _,fun _ _=>rfl⟩),?_,?_⟩,?_,?_⟩
   ·show (World.setCell _ _ _).heap[_]? = _;rw[Below.heap_setCell _ _ _ _ (by show w.heap.size≠w.heap.size+1;omega),dx hX.2.1 0 _];rfl
   ·show (World.setCell _ _ _).heap[_]? = _;rw[dx ((Below.heap_setCell _ _ _ _ (by show w.heap.size+1≠w.heap.size;omega)).trans hX.2.2) 0 _];rfl
   ·show (World.setCell _ _ _).heap[_]? = _;rw[Below.heap_setCell _ _ _ _ (by show _≠w.heap.size+1;omega),Below.heap_setCell _ _ _ _ (by show _≠w.heap.size;omega),HW2.out.1]
   ·show (World.setCell _ _ _).heap[_]? = _;rw[Below.heap_setCell _ _ _ _ (by show _≠w.heap.size+1;omega),Below.heap_setCell _ _ _ _ (by show _≠w.heap.size;omega),HW2.out.1]
 case done=>
  intro W hmn hon hK;obtain⟨hbel,hres,Ac,v,hv,hown⟩:=hon;have hl0:(fZ l (n0+1)).length=n0+1:=Hl l (n0+1);have hown':W.ownsRow (w.heap.size+6) 130 2 v (fZ l (n0+1)).length (dL (fZ l (n0+1))):=by rw[hl0];exact hown
  obtain⟨va,vc,rfl,Ue,Ia⟩:=IZ hown';have nC:Hid (scan l [] [] [] false=some (fZ l (n0+1))):=Pq l n0 (fun i hi=>⟨HMT.out i hi,Nl.out i (by omega)⟩) (Nl.out n0 (by omega)) W9.out;have jQ:Hid (∀ p,p∈fZ l (n0+1)->p.1.length<=l.length/\p.2.length<=l.length):=fun p hp=>by
   simp[fZ] at hp;obtain⟨i,_,rfl⟩:=hp;exact Pn l i
  rw[hl0] at Ia hown' Ue;have hsz:∀ i,i<n0+1->(nameAt (fZ l (n0+1)) i).size<=1000000/\(dG (fZ l (n0+1)) i).size<=1000000:=fun i hi=>by
   have e:(fZ l (n0+1)).getD i ([],[])=oI l i:=by simp[fZ,hi]
   unfold nameAt dG;rw[e,bB,bB];have:=Pn l i;omega
  have hE:=HE.out;have y1:W.cell? ⟨0,0,none⟩=some (.iface 311 (.pointer (some (ea 1)))):=(hbel.cell (p:=⟨0,0,none⟩) g1).trans hE.2.1;have y2:W.cell? ⟨2,0,none⟩=some (.iface 311 (.pointer (some (ea 2)))):=(hbel.cell (p:=⟨2,0,none⟩) g2).trans hE.2.2.1;have y3:W.cell? ⟨3,0,none⟩=some (.iface 311 (.pointer (some (ea 3)))):=(hbel.cell (p:=⟨3,0,none⟩) g3).trans hE.2.2.2;have c2:W.cell? ⟨w.heap.size+2,0,none⟩=some (.slice va (n0+1) vc):=by
   rw[hl0] at hv;simp[World.cell?,hv]
  have HB:=(show Hid _ from hbel);have HR:Hid (_/\_/\_):=⟨hres,Ac,hK⟩;have HOWN:=(show Hid _ from hown');have HLEN:=(show Hid _ from hl0);clear hr0 hr1 hr2 hr3 xR hown hE hbel hres Ac hv hK hl0 hown';by_cases h6:6<n0+1
  ·have nQ:Hid _:=KV W va (n0+1) vc h6 (by omega) (ea 1) y1;have k0:W.cell? ⟨w.heap.size,0,none⟩=some (.slice none 0 0):=by simp[World.cell?,HR.out.1]
   have k1:W.cell? ⟨w.heap.size+1,0,none⟩=some .nilIface:=by simp[World.cell?,HR.out.2.1]
   have z0:W.frozen? ⟨w.heap.size,0,none⟩=false:=by simp[World.frozen?,HR.out.1]
   have z1:W.frozen? ⟨w.heap.size+1,0,none⟩=false:=by simp[World.frozen?,HR.out.2.1]
   clear Ia hsz y1 y2 y3;go_wp2_with fail;refine Calls.mono nQ.out ?_;rintro e w1 ⟨rfl,hw1⟩;have aQ:=hw1.symm;subst aQ;go_wp2;obtain⟨q0,q1,q2⟩:=Aa (a':=.slice none 0 0) (b':=.iface 311 (.pointer (some (ea 1)))) HR.out.1 HR.out.2.1;refine⟨by simp,.inl ⟨_,_,rfl,run_takeDeferred ((q2 _ (by omega) (by omega)).trans (by have:=HR.out.2.2;rwa [hs0] at this)),?_⟩⟩;obtain⟨p0,p1⟩:=uN q0 q1 (.deferred none);refine⟨.tuple #[.slice none 0 0,.iface 311 (.pointer (some (ea 1)))],by simp[results,Tryz.results97,go_sem,p0,p1],?_,.inr ⟨_,nC.out,?_,?_,jQ.out,.inl ⟨?_,rfl⟩⟩⟩
   ·exact qb ((HB.out.setCell (Nat.le_refl _) _).setCell (by simp) _) _ (by omega) _
   ·rw[HLEN.out];omega
   ·rw[HLEN.out];omega
   ·rw[HLEN.out];exact h6
  ·obtain⟨mm,hmm,hok,hbad⟩:=rQ (jg (nameAt (fZ l (n0+1))) (dG (fZ l (n0+1)))) (n0+1);have nQ:Hid _:=M5 W va (n0+1) vc _ _ Ia hsz (by omega) (by omega) mm hmm hok hbad (ea 3) (ea 2) y3 y2;have dD:=(show Hid _ from And.intro hok hbad);clear Ia hsz y1 y2 y3 hok hbad;go_wp2_with fail;refine Calls.mono nQ.out ?_;rintro e w1 ⟨hb1,hout⟩;have hs1:=hb1.size;have hwW:=HB.out.size;have i4:w.heap.size+4<W.heap.size:=by have h:=HR.out.2.2;rw[hs0] at h;exact (Array.getElem?_eq_some_iff.1 h).1
   have Ad:w1.heap[w.heap.size]? = some (.cells #[.slice none 0 0] 97 (0,0))/\w1.heap[w.heap.size+1]? = some (.cells #[.nilIface] 27 (0,0))/\w1.heap[w.heap.size+4]? = some (.deferred (some [])):=
    ⟨(hb1.block _ (by omega)).trans HR.out.1,(hb1.block _ (by omega)).trans HR.out.2.1,(hb1.block _ (by omega)).trans (by have h:=HR.out.2.2;rwa [hs0] at h)⟩
   have k0:w1.cell? ⟨w.heap.size,0,none⟩=some (.slice none 0 0):=by simp[World.cell?,Ad.1]
   have k1:w1.cell? ⟨w.heap.size+1,0,none⟩=some .nilIface:=by simp[World.cell?,Ad.2.1]
   have z0:w1.frozen? ⟨w.heap.size,0,none⟩=false:=by simp[World.frozen?,Ad.1]
   have z1:w1.frozen? ⟨w.heap.size+1,0,none⟩=false:=by simp[World.frozen?,Ad.2.1]
   have k2:w1.cell? ⟨w.heap.size+2,0,none⟩=some (.slice va (n0+1) vc):=(hb1.cell (p:=⟨w.heap.size+2,0,none⟩) (by show w.heap.size+2<W.heap.size;omega)).trans c2;have HR1:=(show Hid _ from Ad);have HB1:=(show Hid _ from hb1);clear hb1 Ad c2;rcases hout with⟨RQ,rfl⟩|⟨RQ,pb,rfl,hpb,p0,p1⟩
   ·have k2s:(w1.setCell ⟨w.heap.size,0,none⟩ (.slice va (n0+1) vc)).cell? ⟨w.heap.size+1,0,none⟩=some .nilIface:=by
     rw[World.cell?_setCell_other _ _ _ _ (by intro e;injection e with e1;omega)];exact k1
    go_wp2;obtain⟨q0,q1,q2⟩:=Aa (a':=.slice va (n0+1) vc) (b':=.nilIface) HR1.out.1 HR1.out.2.1;refine⟨by simp,.inl ⟨_,_,rfl,run_takeDeferred ((q2 _ (by omega) (by omega)).trans HR1.out.2.2),?_⟩⟩;obtain⟨p0,p1⟩:=uN q0 q1 (.deferred none);refine⟨.tuple #[.slice va (n0+1) vc,.nilIface],by simp[results,Tryz.results97,go_sem,p0,p1],?_,.inr ⟨_,nC.out,?_,?_,jQ.out,.inr ⟨?_,mm,?_,dD.out.1,?_,.inl ⟨?_,_,rfl,?_⟩⟩⟩⟩
    ·exact qb (((HB.out.trans (HB1.out.mono hwW)).setCell (Nat.le_refl _) _).setCell (by simp) _) _ (by omega) _
    ·rw[HLEN.out];omega
    ·rw[HLEN.out];omega
    ·rw[HLEN.out];omega
    ·rw[HLEN.out];omega
    ·rw[HLEN.out];exact dD.out.2
    ·rw[HLEN.out];exact RQ
    ·rw[HLEN.out];have hw1:w1.ownsRow (w.heap.size+6) 130 2 (.slice va (n0+1) vc) (n0+1) (dL (fZ l (n0+1))):=by
      obtain⟨h1,h2⟩:=HOWN.out;refine⟨h1,?_⟩;rcases h2 with h2 | ⟨g,cap,cur,hv,hg,hh,t⟩
      ·exact .inl h2
      ·exact .inr ⟨g,cap,cur,hv,hg,(HB1.out.block _ (aV hh)).trans hh,t⟩
     have h3:=LM (mg (mg hw1 w.heap.size 0 (by omega) (.slice va (n0+1) vc)) (w.heap.size+1) 0 (by omega) .nilIface) (w.heap.size+4) (by omega) (.deferred none);obtain⟨h1,h2⟩:=h3;refine⟨h1,?_⟩;rcases h2 with h2 | ⟨g,cap,cur,hv,hg,t⟩
     ·exact .inl h2
     ·exact .inr ⟨g,cap,cur,hv,by omega,t⟩
   ·have HP:Hid (_/\_/\_):=⟨hpb,p0,p1⟩;clear p0 p1;go_wp2;obtain⟨q0,q1,q2⟩:=Aa (a':=.slice none 0 0) (b':=.iface 116 (.pointer (some ⟨pb,0,none⟩))) HR1.out.1 HR1.out.2.1;refine⟨by simp,.inl ⟨_,_,rfl,run_takeDeferred ((q2 _ (by omega) (by omega)).trans HR1.out.2.2),?_⟩⟩;obtain⟨p0,p1⟩:=uN q0 q1 (.deferred none);refine⟨.tuple #[.slice none 0 0,.iface 116 (.pointer (some ⟨pb,0,none⟩))],by simp[results,Tryz.results97,go_sem,p0,p1],?_,.inr ⟨_,nC.out,?_,?_,jQ.out,.inr ⟨?_,mm,?_,dD.out.1,?_,.inr ⟨?_,pb,rfl,?_,?_,?_⟩⟩⟩⟩
    ·exact qb (((HB.out.trans (HB1.out.mono hwW)).setCell (Nat.le_refl _) _).setCell (by simp) _) _ (by omega) _
    ·rw[HLEN.out];omega
    ·rw[HLEN.out];omega
    ·rw[HLEN.out];omega
    ·rw[HLEN.out];omega
    ·rw[HLEN.out];exact dD.out.2
    ·rw[HLEN.out];exact RQ
    ·have:=HP.out.1;omega
    ·exact (Jc _ (by have:=HP.out.1;omega) q2).trans HP.out.2.1
    ·exact (Jc _ (by have:=HP.out.1;omega) q2).trans HP.out.2.2
 case stop=>
  intro W hmn hx hK;have HX:=(show Hid _ from hx);have HK:=(show Hid _ from hK);have nC:Hid (scan l [] [] [] false=none):=Pp l m (fun i hi=>⟨HMT.out i (by omega),Nl.out i hi⟩) (Um.out hmn);clear hx hK hr0 hr1 hr2 hr3 xR;go_wp2;refine⟨by simp,.inl ⟨_,_,rfl,run_takeDeferred (by have h:=HK.out;rwa [hs0] at h),?_⟩⟩;obtain⟨p0,p1⟩:=uN HX.out.res HX.out.err (.deferred none);exact⟨.tuple #[.slice none 0 0,.iface 311 (.pointer (some (ea 0)))],by simp[results,Tryz.results97,go_sem,hs0,p0,p1],qb HX.out.bg _ (by omega) _,.inl ⟨nC.out,rfl⟩⟩
end Go.Proofs.YtcemkhalbjhdkaaGreatDoor
