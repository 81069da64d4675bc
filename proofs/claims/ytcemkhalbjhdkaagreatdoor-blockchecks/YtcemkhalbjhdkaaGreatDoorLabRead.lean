import Derived.Test.YtcemkhalbjhdkaaGreatDoorRefTicksGroup
import Derived.Shelf.RegionOpen
import Derived.Test.YtcemkhalbjhdkaaGreatDoorLabCutGroup
import Derived.OwnWalkIn
import Derived.TacticsInMore
import Derived.LoopNIn
import Derived.LoopIn
import Derived.RangeFuncNested
import Derived.RangeFuncBound
import Derived.RangeFuncCalls
import Derived.RangeFuncLeaves
import Derived.Shelf.Abstract
namespace Go.Proofs.YtcemkhalbjhdkaaGreatDoor
open Go.RowKit
variable {P:Program}
def IW (P:Program) (gf:Nat) (lb:Array Value) (encs:Nat->Array Value) (m n:Nat) (w:World):Prop:=
 ∀ (l:Nat) (J:Nat->World->Prop) (Jx:World->Prop) (W:World),Below w.heap.size w W ->
  (∀ k A q,J k A->J k (World.drewN A q)) ->
  (∀ k A,k<m->J k A->YieldAt Fence.wide 0 P l (encs k) A fun e A'=>e = .returned (.bool true)/\J (k+1) A') ->
  (∀ A,m<n->J m A->YieldAt Fence.wide 0 P l (encs m) A fun e A'=>e = .returned (.bool false)/\Jx A') ->
  J 0 W ->
  CallsIn Fence.wide 0 P gf (#[.func (.yield l) #[] #[]]++lb) W fun e W'=>(∃ v,e = .returned v)/\((m=n/\J n W')\/(m<n/\Jx W'))
def aat (R:World->Prop):Exit->Act->World->Prop
 | .normal,_,W=>R W
 | _,_,_=>False
def Zl (R:World->Prop):Exit->Act->World->Prop
 | .ret,_,W=>R W
 | _,_,_=>False
theorem OT {g:Operand} {ps:Array Tmp} {assign body:Code} {Q:Exit->Act->World->Prop} {a:Act} {w:World} {gf:Nat} {lb:Array Value}
  (hg:a.eval g = .func (.func gf) #[] lb) (eg:∀ args w,(callFunc gf args).run P w = .ok (.enter gf args) w)
  (m n:Nat) (encs:Nat->Array Value) (hps:∀ k,(encs k).size=ps.size) (hseq:IW P gf lb encs m n w)
  (I:Nat->World->Prop) (Ix:World->Prop)
  (XG:∀ k A l o,w.heap.size<=l->l<=w.heap.size+1->I k A->I k (A.putObj l o)) (hId:∀ k A q,I k A->I k (World.drewN A q))
  (hXp:∀ A l o,w.heap.size<=l->l<=w.heap.size+1->Ix A->Ix (A.putObj l o))
  (h0:∀ o1 o2,I 0 ((w.alloc o1).alloc o2)) (a₁:Nat->Act)
  (hassign:∀ (l k:Nat) (W:World) (K:Act->World->Prop),K (a₁ k) W ->
   assign.wpIn (Fence.wide.inRound l) 0 P (Exit.then K (fun _ _ _=>False)) { tmps:=(ps.zip (encs k)).foldl (fun t (p,v)=>t.setIfInBounds p v) a.tmps,defers:=[] } W)
  (hbody:∀ (l k:Nat) (W:World),k<m->I k W->w.heap.size+1<W.heap.size ->
   body.wpIn (Fence.wide.inRound l) 0 P (aat fun W'=>I (k+1) W'/\W'.heap[w.heap.size]? = W.heap[w.heap.size]? /\ W'.heap[w.heap.size+1]? = W.heap[w.heap.size+1]?) (a₁ k) W)
  (hlast:∀ (l:Nat) (W:World),m<n->I m W->w.heap.size+1<W.heap.size ->
   body.wpIn (Fence.wide.inRound l) 0 P (Zl fun W'=>Ix W'/\W'.heap[w.heap.size]? = W.heap[w.heap.size]? /\ W'.heap[w.heap.size+1]? = W.heap[w.heap.size+1]?) (a₁ m) W)
  (hdone:∀ (W:World),m=n->I n W->W.heap[w.heap.size]? = some (.deferred (some []))->Q .normal { a with defers:={ target:=.collected w.heap.size,args:=#[] }::a.defers } W)
  (hstop:∀ (W:World),m<n->Ix W->W.heap[w.heap.size]? = some (.deferred (some []))->Code.ret.wp P Q { a with defers:={ target:=.collected w.heap.size,args:=#[] }::a.defers } W) :
  (Code.rangeFunc g ps assign body).wp P Q a w:=by
 refine (wpIn_wide (n:=0)).1 (wpIn_rangeFunc ?_);intro fn hfn;obtain⟨rec,hrec⟩:∃ rec:LoopState->Option Code->Loop,rec=fun st pe=>{ state:=st,pending:=pe,fn,tmps:=a.tmps,params:=ps,assign,body,defers:=w.heap.size }:=⟨_,rfl⟩
 obtain⟨W1,hW1⟩:∃ W1,W1=(w.alloc (.deferred (some []))).alloc (.loop (rec .ready none)):=⟨_,rfl⟩;have hL1:W1.heap[w.heap.size+1]? = some (.loop (rec .ready none)):=by
  rw[hW1];have:=World.alloc_heap_new (w.alloc (.deferred (some []))) (.loop (rec .ready none));rwa [World.size_alloc] at this
 have hD1:W1.heap[w.heap.size]? = some (.deferred (some [])):=by
  rw[hW1];exact (Below.heap_alloc _ _ _ (by simp)).trans (World.alloc_heap_new w _)
 have hb1:Below w.heap.size w W1:=by rw[hW1];exact ((Below.refl _ w).alloc (Nat.le_refl _) _).alloc (by simp) _
 have hi1:I 0 W1:=by rw[hW1];exact h0 _ _
 refine⟨w.heap.size+1,[{ target:=.collected w.heap.size,args:=#[] }],W1,{ target:=.fn (.func gf) lb,args:=#[.func (.yield (w.heap.size+1)) #[] #[]] },W1,gf,
  #[.func (.yield (w.heap.size+1)) #[] #[]]++lb,W1,?_,?_,?_,?_,fun h=>by simp[Fence.wide] at h,?_⟩
 ·rw[hW1,hrec];exact run_enterLoop_outer _ _ _ _ _
 ·simp only[resolve,hg];simp[go_sem]
 ·intro f' _;trivial
 ·simp[invoke,go_sem,eg]
 ·refine CallsIn.mono (hseq (w.heap.size+1)
   (fun k W=>I k W/\W.heap[w.heap.size+1]? = some (.loop (rec .ready none))/\W.heap[w.heap.size]? = some (.deferred (some [])))
   (fun W=>Ix W/\W.heap[w.heap.size+1]? = some (.loop (rec .done (some .ret)))/\W.heap[w.heap.size]? = some (.deferred (some [])))
   W1 hb1 ?_ ?_ ?_ ⟨hi1,hL1,hD1⟩) ?_
  ·rintro k A q ⟨hi,hl,hd⟩;exact⟨hId k A q hi,hl,hd⟩
  ·rintro k A hk ⟨hi,hl,hd⟩;have hal:=(Array.getElem?_eq_some_iff.1 hl).1;have hy:=run_yield (P:=P) (args:=encs k) hl (by rw[hrec];exact hps k);rw[hrec] at hy;refine⟨fn,_,assign,body,hy,roundIn_of_wpIn hfn (hassign _ k A _ ?_)⟩;clear hy;refine⟨_,run_beginRound hl (by rw[hrec]),?_⟩;obtain⟨Ab,vO⟩:∃ Ab,Ab=A.putObj (w.heap.size+1) (.loop { rec .ready none with state:=.busy }):=⟨_,rfl⟩;rw[<-vO];have hsb:Ab.heap.size=A.heap.size:=by rw[vO];simp
   have hlb:Ab.heap[w.heap.size+1]? = some (.loop { rec .ready none with state:=.busy }):=by rw[vO];exact World.putObj_heap_same (by omega)
   have hdb:Ab.heap[w.heap.size]? = some (.deferred (some [])):=by rw[vO,World.putObj_heap_other (by omega)];exact hd
   have hib:I k Ab:=by rw[vO];exact XG k A _ _ (by omega) (by omega) hi
   refine wpIn_mono (hbody _ k Ab hk hib (by omega)) ?_;rintro e a3 W3 hp;cases e with
   | normal=>
    obtain⟨hi3,hd3,hl3⟩:=hp;have LZ:=hl3.trans hlb;have afS:=(Array.getElem?_eq_some_iff.1 LZ).1;refine⟨_,_,run_endRound (P:=P) none LZ,rfl,XG _ _ _ _ (by omega) (by omega) hi3,?_,?_⟩
    ·rw[World.putObj_heap_same (by omega),hrec];rfl
    ·rw[World.putObj_heap_other (by omega)];exact hd3.trans hdb
   | ret=>exact hp.elim
   | exit id=>exact hp.elim
   | goto t=>exact hp.elim
   | panic ch=>exact hp.elim
   | outgrown=>exact hp.elim
  ·rintro A hmn ⟨hi,hl,hd⟩;have hal:=(Array.getElem?_eq_some_iff.1 hl).1;have hy:=run_yield (P:=P) (args:=encs m) hl (by rw[hrec];exact hps m);rw[hrec] at hy;refine⟨fn,_,assign,body,hy,roundIn_of_wpIn hfn (hassign _ m A _ ?_)⟩;clear hy;refine⟨_,run_beginRound hl (by rw[hrec]),?_⟩;obtain⟨Ab,vO⟩:∃ Ab,Ab=A.putObj (w.heap.size+1) (.loop { rec .ready none with state:=.busy }):=⟨_,rfl⟩;rw[<-vO];have hsb:Ab.heap.size=A.heap.size:=by rw[vO];simp
   have hlb:Ab.heap[w.heap.size+1]? = some (.loop { rec .ready none with state:=.busy }):=by rw[vO];exact World.putObj_heap_same (by omega)
   have hdb:Ab.heap[w.heap.size]? = some (.deferred (some [])):=by rw[vO,World.putObj_heap_other (by omega)];exact hd
   have hib:I m Ab:=by rw[vO];exact XG m A _ _ (by omega) (by omega) hi
   refine wpIn_mono (hlast _ Ab hmn hib (by omega)) ?_;rintro e a3 W3 hp;cases e with
   | ret=>
    obtain⟨hi3,hd3,hl3⟩:=hp;have LZ:=hl3.trans hlb;have afS:=(Array.getElem?_eq_some_iff.1 LZ).1;refine⟨_,_,run_endRound (P:=P) (some .ret) LZ,rfl,hXp _ _ _ (by omega) (by omega) hi3,?_,?_⟩
    ·rw[World.putObj_heap_same (by omega),hrec];rfl
    ·rw[World.putObj_heap_other (by omega)];exact hd3.trans hdb
   | normal=>exact hp.elim
   | exit id=>exact hp.elim
   | goto t=>exact hp.elim
   | panic ch=>exact hp.elim
   | outgrown=>exact hp.elim
  ·rintro e W2 ⟨⟨v,rfl⟩,h⟩;rcases h with⟨hmn,hi,hl,hd⟩|⟨hmn,hi,hl,hd⟩
   ·refine⟨none,_,by have:=run_endLoop (P:=P) hl (by rw[hrec];simp);rw[hrec] at this;exact this,hdone _ hmn (XG _ _ _ _ (by omega) (by omega) hi) ((World.putObj_heap_other (by omega)).trans hd)⟩
   ·refine⟨some .ret,_,by have:=run_endLoop (P:=P) hl (by rw[hrec];simp);rw[hrec] at this;exact this,?_⟩;exact wpIn_wide.2 (hstop _ hmn (hXp _ _ _ (by omega) (by omega) hi) ((World.putObj_heap_other (by omega)).trans hd))
end Go.Proofs.YtcemkhalbjhdkaaGreatDoor
set_option maxRecDepth 100000
set_option maxHeartbeats 2000000
namespace Go.Proofs.YtcemkhalbjhdkaaGreatDoor
open Go.RowKit Go.Shelf bD
attribute [local go_sem] Oper.semAt_some
def QV:Value->Nat
 | .string s=>s.size
 | _=>0
def QW:Value->Nat
 | .bool true=>1
 | _=>0
theorem QX (s:ByteArray) (w:World) :
  Calls Tryz.prog 123 #[.string s] w fun e w'=>e = .returned (.func (.func 153) #[] #[.pointer (some ⟨w.heap.size,0,none⟩)])/\w'=w.alloc (.cells #[.string s] 9):=by
 go_enter Tryz.func123,Tryz.ntmps123;go_wp2;go_ret;exact⟨rfl,rfl⟩
theorem KQ (Bn:Nat) (s:ByteArray) (w:World) (hs:s.size<=1000000) (m n:Nat) (hm:m<=n) (hn1:1<=n) (hmore:∀ i,i<n->mZ s.data.toList i=decide (i+1<n))
  (FN:w.cell? ⟨Bn,0,none⟩=some (.string s)) :
  IW Tryz.prog 153 #[.pointer (some ⟨Bn,0,none⟩)] (fun k=>#[.string (txt (kK s.data.toList k))]) m n w:=by
 intro l J Jx W hbW hJd Tp hJx hJ0;have hBn:Bn<w.heap.size:=World.block_lt_of_cell? w ⟨Bn,0,none⟩ FN;have QY:W.cell? ⟨Bn,0,none⟩=some (.string s):=(hbW.cell (p:=⟨Bn,0,none⟩) hBn).trans FN;have hsz:∀ k,(txt (fO s.data.toList k)).size<=1000000:=fun k=>by
  rw[bL];have h1:=IX s.data.toList k;have h2:s.data.toList.length=s.size:=Array.length_toList;omega
 have eO:=(show Hid _ from hsz);have HJd:=(show Hid _ from hJd);have HJy:=(show Hid _ from Tp);have HJx:=(show Hid _ from hJx);have HJ0:=(show Hid _ from hJ0);have HM:=(show Hid _ from hmore);clear hJ0 hJd Tp hJx hmore hsz FN hbW;refine callsIn_of_wp Tryz.func153 rfl trivial ?_ rfl;simp only[Tryz.ntmps153,List.size_toArray,List.length_cons,List.length_nil,Nat.reduceAdd,Nat.reduceSub,Array.replicate_succ,Array.replicate_zero,List.push_toArray,List.append_toArray,List.nil_append,List.cons_append];gi_wp2;gi_loopw [3,4,5] (fun r f _ wr=>∃ k:Nat,k<=m/\r = .string (txt (fO s.data.toList k))/\f = .bool (decide (k<n))/\J k wr) (fun r f _ _=>QV r+QW f);case atStart=>exact⟨0,Nat.zero_le _,rfl,by simp;omega,HJ0.out⟩
 case round=>
  obtain⟨k,hkm,rfl,rfl,hJ⟩:=hrel;have HJ:=(show Hid _ from hJ);clear hJ HJ0;by_cases hkn:k<n
  ·rw[show decide (k<n)=true from decide_eq_true hkn];have hcut:=fun w0=>Zm (txt (fO s.data.toList k)) w0 (eO.out k)
   have hp:txt (bO 44 (txt (fO s.data.toList k)).data.toList).1=txt (kK s.data.toList k):=rfl;have hr:txt (bO 44 (txt (fO s.data.toList k)).data.toList).2.1=txt (fO s.data.toList (k+1)):=rfl;have hf:(bO 44 (txt (fO s.data.toList k)).data.toList).2.2=mZ s.data.toList k:=rfl;rw[hp,hr,hf,HM.out k hkn] at hcut;have zH:=(show Hid _ from hcut);have XH:(fO s.data.toList (k+1)).length+(if k+1<n then 1 else 0)<(fO s.data.toList k).length+1:=by
    have hc:=uR 44 (fO s.data.toList k);have hmk:=HM.out k hkn;by_cases hk1:k+1<n
    ·rw[decide_eq_true hk1] at hmk;have:=hc.2.2 hmk;rw[if_pos hk1];simp only[fO];omega
    ·rw[decide_eq_false hk1] at hmk;have hz:fO s.data.toList (k+1) = []:=JA 44 _ hmk;rw[if_neg hk1,hz];simp
   have ady:=(show Hid _ from XH);clear hcut hp hr hf XH;have hrs:(txt (fO s.data.toList k)).size=(fO s.data.toList k).length:=bL _;generalize txt (fO s.data.toList k)=r0 at *;have Tq:=(show Hid _ from hrs);clear hrs;gi_wp2_with fail;refine⟨trivial,rfl,?_⟩;refine CallsIn.mono (callsIn_wide.2 (zH.out _)) ?_;rintro e w1 ⟨rfl,q,rfl⟩;have Md:=HJd.out k wr q HJ.out;by_cases hlt:k<m
   ·obtain⟨fn,tmps,assign,body,hy,hR⟩:=HJy.out k _ hlt Md;have HR:=(show Hid _ from hR);clear hR Md;gi_wp2;refine⟨rfl,?_⟩;refine RoundIn.mono HR.out ?_;rintro e W3 ⟨rfl,hJ3⟩;have HJ3:=(show Hid _ from hJ3);clear hJ3 hy;gi_wp2;go_roundw;case rel=>exact⟨k+1,by omega,rfl,rfl,HJ3.out⟩
    case measure=>
     have h1:=ady.out;have h2:=Tq.out;have h3:(txt (fO s.data.toList (k+1))).size=(fO s.data.toList (k+1)).length:=bL _;by_cases hk1:k+1<n
     ·rw[if_pos hk1] at h1;simp[QV,QW,hk1];omega
     ·rw[if_neg hk1] at h1;simp[QV,QW,hk1];omega
   ·have Lm:k=m:=by omega
    subst Lm;obtain⟨fn,tmps,assign,body,hy,hR⟩:=HJx.out _ hkn Md;have HR:=(show Hid _ from hR);clear hR Md;gi_wp2;refine⟨rfl,?_⟩;refine RoundIn.mono HR.out ?_;rintro e W3 ⟨rfl,hJ3⟩;have HJ3:=(show Hid _ from hJ3);clear hJ3 hy;gi_wp2;exact bodyPost_ret (v:=.tuple #[]) (results_none rfl _ _ _) rfl ⟨⟨_,rfl⟩,.inr ⟨hkn,HJ3.out⟩⟩
  ·have h1:k=n:=by omega
   have h2:m=n:=by omega
   rw[show decide (k<n)=false from decide_eq_false hkn];subst h1;gi_wp2;go_end0;exact⟨⟨_,rfl⟩,.inl ⟨h2,HJ.out⟩⟩
end Go.Proofs.YtcemkhalbjhdkaaGreatDoor
set_option maxRecDepth 100000
set_option maxHeartbeats 4000000
namespace Go.Proofs.YtcemkhalbjhdkaaGreatDoor
open Go.RowKit Go.Shelf bD
attribute [local go_sem] Oper.semAt_some
structure FP (s0:Nat) (w:World) (l:List UInt8) (k:Nat) (W:World):Prop where
 aL:Below s0 w W
 res:W.heap[s0]? = some (.cells #[.slice none 0 0] 97 (0,0))
 err:W.heap[s0+1]? = some (.cells #[.nilIface] 27 (0,0))
 row:∃ v,W.heap[s0+2]? = some (.cells #[v] 97 (0,0))/\W.ownsRow (s0+6) 130 2 v k (dR (gL l k))
structure K4 (s0:Nat) (w:World) (a:Addr) (W:World):Prop where
 aL:Below s0 w W
 res:W.heap[s0]? = some (.cells #[.slice none 0 0] 97 (0,0))
 err:W.heap[s0+1]? = some (.cells #[.iface 311 (.pointer (some a))] 27 (0,0))
theorem Pt {w:World} {base:Nat} {e:TypeId} {sz:Nat} {v:Value} {n:Nat} {xs:List Value} (h:w.ownsRow base e sz v n xs) (b:Nat) (hb:b<base) (o:Obj):(w.putObj b o).ownsRow base e sz v n xs:=by
 obtain⟨h1,h2⟩:=h;refine⟨h1,?_⟩;rcases h2 with h2 | ⟨g,cap,cur,hv,hg,hh,t⟩
 ·exact .inl h2
 ·exact .inr ⟨g,cap,cur,hv,hg,by rw[World.putObj_heap_other (by omega)];exact hh,t⟩
theorem sj {s0:Nat} {w W:World} (h:Below s0 w W) (b:Nat) (hb:s0<=b) (o:Obj):Below s0 w (W.putObj b o):=
 h.trans ⟨rfl,rfl,rfl,by simp,fun k hk=>World.putObj_heap_other (by omega)⟩
theorem FP.put {s0:Nat} {w:World} {l:List UInt8} {k:Nat} {W:World} (h:FP s0 w l k W) (b:Nat) (o:Obj) (h1:s0+4<=b) (h2:b<=s0+5):FP s0 w l k (W.putObj b o):=by
 obtain⟨hb,hr,he,v,hv,ho⟩:=h;exact⟨sj hb b (by omega) o,(World.putObj_heap_other (by omega)).trans hr,(World.putObj_heap_other (by omega)).trans he,v,(World.putObj_heap_other (by omega)).trans hv,Pt ho b (by omega) o⟩
theorem FP.drewN {s0:Nat} {w:World} {l:List UInt8} {k:Nat} {W:World} (h:FP s0 w l k W) (q:Nat):FP s0 w l k (W.drewN q):=
 ⟨below_draws h.aL q,h.res,h.err,h.row⟩
theorem K4.put {s0:Nat} {w:World} {a:Addr} {W:World} (h:K4 s0 w a W) (b:Nat) (o:Obj) (h1:s0+4<=b):K4 s0 w a (W.putObj b o):=
 ⟨sj h.aL b (by omega) o,(World.putObj_heap_other (by omega)).trans h.res,(World.putObj_heap_other (by omega)).trans h.err⟩
theorem xB {X:World} {s0:Nat} {a b:Value} (h0:X.heap[s0]? = some (.cells #[a] 97 (0,0))) (h1:X.heap[s0+1]? = some (.cells #[b] 27 (0,0))) (o:Obj) :
  (X.putObj (s0+4) o).cell? ⟨s0,0,none⟩=some a/\(X.putObj (s0+4) o).cell? ⟨s0+1,0,none⟩=some b:=by
 have e0:(X.putObj (s0+4) o).heap[s0]? = some (.cells #[a] 97 (0,0)):=(World.putObj_heap_other (by omega)).trans h0;have e1:(X.putObj (s0+4) o).heap[s0+1]? = some (.cells #[b] 27 (0,0)):=(World.putObj_heap_other (by omega)).trans h1;simp only[World.cell?,e0,e1];exact⟨rfl,rfl⟩
theorem CY {X:World} {s0:Nat} {a b a' b':Value} (h0:X.heap[s0]? = some (.cells #[a] 97 (0,0))) (h1:X.heap[s0+1]? = some (.cells #[b] 27 (0,0))) :
  ((X.setCell ⟨s0,0,none⟩ a').setCell ⟨s0+1,0,none⟩ b').heap[s0]? = some (.cells #[a'] 97 (0,0))/\((X.setCell ⟨s0,0,none⟩ a').setCell ⟨s0+1,0,none⟩ b').heap[s0+1]? = some (.cells #[b'] 27 (0,0)) /\
  (∀ k,k≠s0->k≠s0+1->((X.setCell ⟨s0,0,none⟩ a').setCell ⟨s0+1,0,none⟩ b').heap[k]? = X.heap[k]?):=by
 refine⟨?_,?_,fun k k0 k1=>?_⟩
 ·rw[Below.heap_setCell _ _ _ _ (by show s0≠s0+1;omega),dM h0 0 _];rfl
 ·rw[dM ((Below.heap_setCell _ _ _ _ (by show s0+1≠s0;omega)).trans h1) 0 _];rfl
 ·rw[Below.heap_setCell _ _ _ _ k1,Below.heap_setCell _ _ _ _ k0]
theorem Me {X Y:World} {s0 b i:Nat} (o:Obj) (hb:s0+4<b) (h:∀ k,k≠s0->k≠s0+1->Y.heap[k]? = X.heap[k]?):(Y.putObj (s0+4) o).cell? ⟨b,i,none⟩=X.cell? ⟨b,i,none⟩:=by
 have e:(Y.putObj (s0+4) o).heap[b]? = X.heap[b]?:=(World.putObj_heap_other (by omega)).trans (h b (by omega) (by omega));simp only[World.cell?,e]
def VG (w w':World) (l:List UInt8) (ea:Nat->Addr) (e:Ending):Prop:=
 Below w.heap.size w w'/\((scan l [] [] [] false=none/\e = .returned (.tuple #[.slice none 0 0,.iface 311 (.pointer (some (ea 0)))])) \/
  ∃ out:List (List UInt8×List UInt8),scan l [] [] [] false=some out/\1<=out.length/\out.length<=l.length+1/\(∀ p,p∈out->p.1.length<=l.length/\p.2.length<=l.length) /\
   ((6<out.length/\e = .returned (.tuple #[.slice none 0 0,.iface 311 (.pointer (some (ea 1)))])) \/
   (out.length<=6/\∃ m,m<=out.length/\(∀ i,i<m->jr (nameAt out) (dN out) i=true)/\(m<out.length->jr (nameAt out) (dN out) m=false) /\
    ((m=out.length/\∃ v,e = .returned (.tuple #[v,.nilIface])/\w'.ownsRow w.heap.size 130 2 v out.length (dR out)) \/
     (m<out.length/\∃ pb:Nat,e = .returned (.tuple #[.slice none 0 0,.iface 116 (.pointer (some ⟨pb,0,none⟩))])/\w.heap.size<=pb/\w'.cell? ⟨pb,0,none⟩=some (.int .i64 (m:Int))/\w'.cell? ⟨pb,1,none⟩=some (.iface 311 (.pointer (some (if (isName (nameAt out m)&&isWord (dN out m))=true then ea 2 else ea 3)))))))))
theorem Tt (s:ByteArray) (w:World) (hs:s.size<=100000) (ea:Nat->Addr) (e0:w.cell? ⟨1,0,none⟩=some (.iface 311 (.pointer (some (ea 0))))) (e1:w.cell? ⟨0,0,none⟩=some (.iface 311 (.pointer (some (ea 1)))))
  (e2:w.cell? ⟨2,0,none⟩=some (.iface 311 (.pointer (some (ea 2))))) (e3:w.cell? ⟨3,0,none⟩=some (.iface 311 (.pointer (some (ea 3))))) :
  Calls Tryz.prog 97 #[.string s] w fun e w'=>VG w w' s.data.toList ea e:=by
 obtain⟨l,hl⟩:∃ l,l=s.data.toList:=⟨_,rfl⟩;have hll:l.length=s.size:=by rw[hl];exact Array.length_toList
 obtain⟨n0,hn0,hmt,Pv⟩:=Tk l;obtain⟨m,hm,hhas,XI⟩:=uQ (CX l) (n0+1);have hmore:∀ i,i<n0+1->mZ l i=decide (i+1<n0+1):=fun i hi=>by
  rcases Nat.lt_or_ge i n0 with h | h
  ·rw[hmt i h];simp;omega
  ·have:i=n0:=by omega
   subst this;rw[Pv];simp
 have HL:=(show Hid _ from hl);have HMT:=(show Hid _ from hmt);have HMF:=(show Hid _ from Pv);have adz:=(show Hid _ from hmore);have QZ:=(show Hid _ from hhas);have XJ:=(show Hid _ from XI);have g0:1<w.heap.size:=World.block_lt_of_cell? w ⟨1,0,none⟩ e0;have g1:0<w.heap.size:=World.block_lt_of_cell? w ⟨0,0,none⟩ e1;have g2:2<w.heap.size:=World.block_lt_of_cell? w ⟨2,0,none⟩ e2;have g3:3<w.heap.size:=World.block_lt_of_cell? w ⟨3,0,none⟩ e3;have HE:Hid (_/\_/\_/\_):=⟨e0,e1,e2,e3⟩;have XK:Hid _:=fun w0=>QX s w0
 rw[<-hl];clear hl hmt Pv hmore hhas XI e0 e1 e2 e3;refine callsIn_wide.1 (callsIn_of_wp_marks (n:=0) Tryz.func97 rfl trivial (wpIn_wide.2 ?_));simp only[Tryz.ntmps97,List.size_toArray,List.length_cons,List.length_nil,Nat.reduceAdd,Nat.reduceSub,Array.replicate_succ,Array.replicate_zero,List.push_toArray,List.append_toArray,List.nil_append,List.cons_append];go_wp2_with fail;refine Calls.mono (XK.out _) ?_;rintro e w1 ⟨rfl,rfl⟩;go_wp2;obtain⟨W0,hW0⟩:∃ W0,W0=(((w.alloc (.cells #[.slice none 0 0] 97)).alloc (.cells #[.nilIface] 27)).alloc (.cells #[.slice none 0 0] 97)).alloc (.cells #[.string s] 9):=⟨_,rfl⟩;have hs0:W0.heap.size=w.heap.size+4:=by rw[hW0];simp
 have hb0:Below w.heap.size w W0:=by rw[hW0];exact ((((Below.refl _ _).alloc (Nat.le_refl _) _).alloc (by simp) _).alloc (by simp;omega) _).alloc (by simp;omega) _
 have hr0:W0.heap[w.heap.size]? = some (.cells #[.slice none 0 0] 97 (0,0)):=by
  rw[hW0,Below.heap_alloc _ _ _ (by simp;omega),Below.heap_alloc _ _ _ (by simp;omega),Below.heap_alloc _ _ _ (by simp)];exact heap_alloc_new _ _
 have hr1:W0.heap[w.heap.size+1]? = some (.cells #[.nilIface] 27 (0,0)):=by
  rw[hW0,Below.heap_alloc _ _ _ (by simp),Below.heap_alloc _ _ _ (by simp)];have:=heap_alloc_new (w.alloc (.cells #[.slice none 0 0] 97)) (.cells #[.nilIface] 27);simpa using this
 have hr2:W0.heap[w.heap.size+2]? = some (.cells #[.slice none 0 0] 97 (0,0)):=by
  rw[hW0,Below.heap_alloc _ _ _ (by simp)];have:=heap_alloc_new ((w.alloc (.cells #[.slice none 0 0] 97)).alloc (.cells #[.nilIface] 27)) (.cells #[.slice none 0 0] 97);simpa using this
 have hr3:W0.heap[w.heap.size+3]? = some (.cells #[.string s] 9 (0,0)):=by
  rw[hW0];have:=heap_alloc_new (((w.alloc (.cells #[.slice none 0 0] 97)).alloc (.cells #[.nilIface] 27)).alloc (.cells #[.slice none 0 0] 97)) (.cells #[.string s] 9);simpa using this
 rw[<-hW0];clear hW0;have z8:IW Tryz.prog 153 #[.pointer (some ⟨w.heap.size+3,0,none⟩)] (fun k=>#[.string (txt (kK l k))]) m (n0+1) W0:=by
  rw[HL.out];refine KQ (w.heap.size+3) s W0 (by omega) m (n0+1) hm (by omega) ?_ (by simp[World.cell?,hr3]);rw[<-HL.out];exact adz.out
 refine OT (gf:=153) (lb:=#[.pointer (some ⟨w.heap.size+3,0,none⟩)]) rfl (enters_of Tryz.func153 (by kernel_rfl) rfl) m (n0+1) (fun k=>#[.string (txt (kK l k))]) (fun _=>rfl) z8
  (FP w.heap.size w l) (K4 w.heap.size w (ea 0)) ?afT ?adA ?afU ?start
  (fun k=>{ tmps:=#[.string s,undef,.pointer (some ⟨w.heap.size,0,none⟩),.pointer (some ⟨w.heap.size+1,0,none⟩),.pointer (some ⟨w.heap.size+2,0,none⟩),.string (txt (kK l k)),undef,undef,undef,undef,.string s,.func (.func 153) #[] #[.pointer (some ⟨w.heap.size+3,0,none⟩)],.string (txt (kK l k)),undef,undef,undef,undef,undef,undef,undef,undef,undef,undef,undef,undef,undef,undef,undef,undef,undef,undef,undef,undef,undef],defers:=[] })
  ?assign ?body ?last ?done ?stop
 case afT=>intro k A b o h1 h2 h;exact h.put b o (by omega) (by omega)
 case adA=>intro k A q h;exact h.drewN q
 case afU=>intro A b o h1 _ h;exact h.put b o (by omega)
 case start=>
  intro o1 o2;refine⟨(hb0.alloc (by omega) _).alloc (by simp;omega) _,?_,?_,.slice none 0 0,?_,?_⟩
  ·rw[Below.heap_alloc _ _ _ (by simp;omega),Below.heap_alloc _ _ _ (by omega)];exact hr0
  ·rw[Below.heap_alloc _ _ _ (by simp;omega),Below.heap_alloc _ _ _ (by omega)];exact hr1
  ·rw[Below.heap_alloc _ _ _ (by simp;omega),Below.heap_alloc _ _ _ (by omega)];exact hr2
  ·exact⟨by simp[dR,gL],.inl ⟨rfl,rfl⟩⟩
 case assign=>
  intro lp k W K hK;gi_wp2;exact hK
 case body=>
  intro lp k W hkm hon hlt;obtain⟨hbel,hres,CZ,v,hv,hown⟩:=hon;have hcut:=fun w0=>Pp (txt (kK l k)) w0 (by rw[bL];have:=Er l k;omega)
  have hh:=QZ.out k hkm;have hf:(bO 61 (txt (kK l k)).data.toList).2.2=CX l k:=rfl;have hn:txt (bO 61 (txt (kK l k)).data.toList).1=txt (qH l k).1:=rfl;have hvv:txt (bO 61 (txt (kK l k)).data.toList).2.1=txt (qH l k).2:=rfl;rw[hf,hn,hvv,hh] at hcut;have zH:=(show Hid _ from hcut);clear hcut hf hn hvv hh hr0 hr1 hr2 hr3 z8;gi_wp2_with fail;refine⟨trivial,rfl,?_⟩;refine CallsIn.mono (CallsIn.inRound lp (callsIn_wide.2 (zH.out _))) ?_;rintro e w2 ⟨rfl,q,hq⟩;have HW2:Hid (w2.heap=W.heap/\Below w.heap.size w w2):=by rw[hq];exact⟨rfl,below_draws hbel q⟩
  have hv2:w2.heap[w.heap.size+2]? = some (.cells #[v] 97 (0,0)):=by rw[hq];exact hv
  have hown2:w2.ownsRow (w.heap.size+6) 130 2 v k (dR (gL l k)):=by rw[hq];exact hown
  have HS2:Hid (w2.heap.size=W.heap.size):=by rw[hq];exact Eq.refl W.heap.size
  clear hq;have c0:w2.cell? ⟨w.heap.size+2,0,none⟩=some v:=by simp[World.cell?,hv2]
  obtain⟨i0,hi,hz0,hz1,hz2⟩:=info_parts Tryz.infoLabel;have HI:=(show Hid _ from hi);clear hi;have eH:(w2.alloc (.cells #[.string (txt (qH l k).1),.string (txt (qH l k).2)] 130)).ownsRow (w.heap.size+6) 130 2 v k (dR (gL l k)):=hown2.alloc _;gi_wp2_with (gi_at_builtin;refine wpListIn_append_own _ rfl _ _ 97 rfl (w.heap.size+6) 130 i0 (.agg #[.string ⟨#[]⟩,.string ⟨#[]⟩]) 2 32 Tryz.underlying97 HI.out hz0 hz1 hz2 rfl (by decide) _ _ _ rfl eH ⟨w2.heap.size,0,none⟩ 1 1 [.string (txt (qH l k).1),.string (txt (qH l k).2)] rfl rfl (World.news_of_block (heap_alloc_new w2 _)) ?c2 ?c3 ?c4 ?c5 ?_);case c2=>first | exact⟨rfl,rfl⟩ | (intro q hq;simp at hq;rcases hq with rfl | rfl<;>rfl)
  case c3=>unfold maxLen;omega
  case c4=>omega
  case c5=>have:=HS2.out;simp;omega
  intro v' w3 hown3 hgrow _;rw[wG (gL l k) (qH l k),<-zG] at hown3;have hS2:=HS2.out;have uS:∀ b,b<w.heap.size+6->w3.heap[b]? = W.heap[b]?:=fun b hb=>by
   have h1:(w2.alloc (.cells #[.string (txt (qH l k).1),.string (txt (qH l k).2)] 130)).heap[b]? = W.heap[b]?:=by
    rw[Below.heap_alloc _ _ _ (by omega),HW2.out.1]
   rw[hgrow.block b (by simp;omega) ?_,h1];intro e;rcases hown2.2 with⟨hv',_⟩|⟨g,cap,cur,hv',hgb,_⟩
   ·rw[hv'] at e;simp[Value.ownBlock] at e
   ·rw[hv'] at e;simp[Value.ownBlock] at e;omega
  have XL:Below w.heap.size w w3:=by
   have h2:=HW2.out.2;refine⟨hgrow.os.trans h2.os,hgrow.tape.trans h2.tape,hgrow.output.trans h2.output,?_,fun b hb=>?_⟩
   ·have h3:=hgrow.size;have h4:=h2.size;simp at h3;omega
   ·rw[uS b (by omega)];exact hbel.block b hb
  have hr3:w3.heap[w.heap.size+2]? = some (.cells #[v] 97 (0,0)):=(uS _ (by omega)).trans hv;have d0:w3.cell? ⟨w.heap.size+2,0,none⟩=some v:=by simp[World.cell?,hr3]
  have f0:w3.frozen? ⟨w.heap.size+2,0,none⟩=false:=by simp[World.frozen?,hr3]
  obtain⟨ao,n',cap,hv'⟩:∃ ao n' cap,v' = .slice ao n' cap:=by
   rcases hown3.2 with⟨hv',_⟩|⟨g,cap,cur,hv',_⟩
   ·exact⟨_,_,_,hv'⟩
   ·exact⟨_,_,_,hv'⟩
  have HV':=(show Hid _ from hv');have zI:=(show Hid _ from uS);have adB:=(show Hid _ from XL);have Bc:=(show Hid _ from hown3);have wI:Hid (_/\_):=⟨hres,CZ⟩;have HR3:=(show Hid _ from hr3);clear uS XL hown3 hgrow hown2 eH hres CZ hv hown c0 hv2 hbel hr3;subst hv';gi_wp2;refine⟨⟨adB.out.setCell (by simp) _,?_,?_,.slice ao n' cap,?_,?_⟩,?_,?_⟩
  ·rw[Below.heap_setCell _ _ _ _ (by show w.heap.size≠w.heap.size+2;omega),zI.out _ (by omega)];exact wI.out.1
  ·rw[Below.heap_setCell _ _ _ _ (by show w.heap.size+1≠w.heap.size+2;omega),zI.out _ (by omega)];exact wI.out.2
  ·rw[dM HR3.out 0 _];rfl
  ·exact nP Bc.out _ _ (by omega) _
  ·rw[Below.heap_setCell _ _ _ _ (by show w.heap.size+4≠w.heap.size+2;omega),zI.out _ (by omega)]
  ·rw[Below.heap_setCell _ _ _ _ (by show w.heap.size+4+1≠w.heap.size+2;omega),zI.out _ (by omega)]
 case last=>
  intro lp W hmn hon hlt;obtain⟨hbel,hres,CZ,v,hv,hown⟩:=hon;have hcut:=fun w0=>Pp (txt (kK l m)) w0 (by rw[bL];have:=Er l m;omega)
  have hh:=XJ.out hmn;have hf:(bO 61 (txt (kK l m)).data.toList).2.2=CX l m:=rfl;have hn:txt (bO 61 (txt (kK l m)).data.toList).1=txt (qH l m).1:=rfl;have hvv:txt (bO 61 (txt (kK l m)).data.toList).2.1=txt (qH l m).2:=rfl;rw[hf,hn,hvv,hh] at hcut;have zH:=(show Hid _ from hcut);clear hcut hf hn hvv hh hr0 hr1 hr2 hr3 z8 hv hown;gi_wp2_with fail;refine⟨trivial,rfl,?_⟩;refine CallsIn.mono (CallsIn.inRound lp (callsIn_wide.2 (zH.out _))) ?_;rintro e w2 ⟨rfl,q,hq⟩;have HW2:Hid (w2.heap=W.heap/\Below w.heap.size w w2):=by rw[hq];exact⟨rfl,below_draws hbel q⟩
  have hres2:w2.heap[w.heap.size]? = some (.cells #[.slice none 0 0] 97 (0,0)):=by rw[hq];exact hres
  have K5:w2.heap[w.heap.size+1]? = some (.cells #[.nilIface] 27 (0,0)):=by rw[hq];exact CZ
  have hb2:Below w.heap.size w w2:=HW2.out.2;have k0:w2.cell? ⟨w.heap.size,0,none⟩=some (.slice none 0 0):=by simp[World.cell?,hres2]
  have k1:w2.cell? ⟨w.heap.size+1,0,none⟩=some .nilIface:=by simp[World.cell?,K5]
  have z0:w2.frozen? ⟨w.heap.size,0,none⟩=false:=by simp[World.frozen?,hres2]
  have z1:w2.frozen? ⟨w.heap.size+1,0,none⟩=false:=by simp[World.frozen?,K5]
  have x0:w2.cell? ⟨1,0,none⟩=some (.iface 311 (.pointer (some (ea 0)))):=(hb2.cell (p:=⟨1,0,none⟩) g0).trans HE.out.1;have HX:Hid (_/\_/\_):=⟨hb2,hres2,K5⟩;clear hq hbel hres CZ hb2 hres2 K5;have afV:Tryz.prog.follows .mixedOrders=true:=by kernel_rfl
  have hwl:=HX.out.1.size;gi_wp2_with fail;gi_region_o;all_goals
   gi_wp2;have hX:=HX.out;refine⟨⟨(((hX.1.setCell (Nat.le_refl _) _).setCell (by simp) _).trans ⟨rfl,rfl,rfl,Nat.le_refl _,fun _ _=>rfl⟩),?_,?_⟩,?_,?_⟩
   ·show (World.setCell _ _ _).heap[_]? = _;rw[Below.heap_setCell _ _ _ _ (by show w.heap.size≠w.heap.size+1;omega),dM hX.2.1 0 _];rfl
   ·show (World.setCell _ _ _).heap[_]? = _;rw[dM ((Below.heap_setCell _ _ _ _ (by show w.heap.size+1≠w.heap.size;omega)).trans hX.2.2) 0 _];rfl
   ·show (World.setCell _ _ _).heap[_]? = _;rw[Below.heap_setCell _ _ _ _ (by show _≠w.heap.size+1;omega),Below.heap_setCell _ _ _ _ (by show _≠w.heap.size;omega),HW2.out.1]
   ·show (World.setCell _ _ _).heap[_]? = _;rw[Below.heap_setCell _ _ _ _ (by show _≠w.heap.size+1;omega),Below.heap_setCell _ _ _ _ (by show _≠w.heap.size;omega),HW2.out.1]
 case done=>
  intro W hmn hon hK;obtain⟨hbel,hres,CZ,v,hv,hown⟩:=hon;have hl0:(gL l (n0+1)).length=n0+1:=KP l (n0+1);have hown':W.ownsRow (w.heap.size+6) 130 2 v (gL l (n0+1)).length (dR (gL l (n0+1))):=by rw[hl0];exact hown
  obtain⟨va,vc,rfl,XA,K6⟩:=LX hown';have qN:Hid (scan l [] [] [] false=some (gL l (n0+1))):=Tn l n0 (fun i hi=>⟨HMT.out i hi,QZ.out i (by omega)⟩) (QZ.out n0 (by omega)) HMF.out;have jm:Hid (∀ p,p∈gL l (n0+1)->p.1.length<=l.length/\p.2.length<=l.length):=fun p hp=>by
   simp[gL] at hp;obtain⟨i,_,rfl⟩:=hp;exact Tj l i
  rw[hl0] at K6 hown' XA;have hsz:∀ i,i<n0+1->(nameAt (gL l (n0+1)) i).size<=1000000/\(dN (gL l (n0+1)) i).size<=1000000:=fun i hi=>by
   have e:(gL l (n0+1)).getD i ([],[])=qH l i:=by simp[gL,hi]
   unfold nameAt dN;rw[e,bL,bL];have:=Tj l i;omega
  have hE:=HE.out;have y1:W.cell? ⟨0,0,none⟩=some (.iface 311 (.pointer (some (ea 1)))):=(hbel.cell (p:=⟨0,0,none⟩) g1).trans hE.2.1;have y2:W.cell? ⟨2,0,none⟩=some (.iface 311 (.pointer (some (ea 2)))):=(hbel.cell (p:=⟨2,0,none⟩) g2).trans hE.2.2.1;have y3:W.cell? ⟨3,0,none⟩=some (.iface 311 (.pointer (some (ea 3)))):=(hbel.cell (p:=⟨3,0,none⟩) g3).trans hE.2.2.2;have c2:W.cell? ⟨w.heap.size+2,0,none⟩=some (.slice va (n0+1) vc):=by
   rw[hl0] at hv;simp[World.cell?,hv]
  have HB:=(show Hid _ from hbel);have HR:Hid (_/\_/\_):=⟨hres,CZ,hK⟩;have HOWN:=(show Hid _ from hown');have HLEN:=(show Hid _ from hl0);clear hr0 hr1 hr2 hr3 z8 hown hE hbel hres CZ hv hK hl0 hown';by_cases h6:6<n0+1
  ·have nL:Hid _:=OL W va (n0+1) vc h6 (by omega) (ea 1) y1;have k0:W.cell? ⟨w.heap.size,0,none⟩=some (.slice none 0 0):=by simp[World.cell?,HR.out.1]
   have k1:W.cell? ⟨w.heap.size+1,0,none⟩=some .nilIface:=by simp[World.cell?,HR.out.2.1]
   have z0:W.frozen? ⟨w.heap.size,0,none⟩=false:=by simp[World.frozen?,HR.out.1]
   have z1:W.frozen? ⟨w.heap.size+1,0,none⟩=false:=by simp[World.frozen?,HR.out.2.1]
   clear K6 hsz y1 y2 y3;go_wp2_with fail;refine Calls.mono nL.out ?_;rintro e w1 ⟨rfl,hw1⟩;have bq:=hw1.symm;subst bq;go_wp2;obtain⟨q0,q1,q2⟩:=CY (a':=.slice none 0 0) (b':=.iface 311 (.pointer (some (ea 1)))) HR.out.1 HR.out.2.1;refine⟨by simp,.inl ⟨_,_,rfl,run_takeDeferred ((q2 _ (by omega) (by omega)).trans (by have:=HR.out.2.2;rwa [hs0] at this)),?_⟩⟩;obtain⟨p0,p1⟩:=xB q0 q1 (.deferred none);refine⟨.tuple #[.slice none 0 0,.iface 311 (.pointer (some (ea 1)))],by simp[results,Tryz.results97,go_sem,p0,p1],?_,.inr ⟨_,qN.out,?_,?_,jm.out,.inl ⟨?_,rfl⟩⟩⟩
   ·exact sj ((HB.out.setCell (Nat.le_refl _) _).setCell (by simp) _) _ (by omega) _
   ·rw[HLEN.out];omega
   ·rw[HLEN.out];omega
   ·rw[HLEN.out];exact h6
  ·obtain⟨mm,hmm,hok,hbad⟩:=uQ (jr (nameAt (gL l (n0+1))) (dN (gL l (n0+1)))) (n0+1);have nL:Hid _:=QI W va (n0+1) vc _ _ K6 hsz (by omega) (by omega) mm hmm hok hbad (ea 3) (ea 2) y3 y2;have dG:=(show Hid _ from And.intro hok hbad);clear K6 hsz y1 y2 y3 hok hbad;go_wp2_with fail;refine Calls.mono nL.out ?_;rintro e w1 ⟨hb1,hout⟩;have hs1:=hb1.size;have hwW:=HB.out.size;have i4:w.heap.size+4<W.heap.size:=by have h:=HR.out.2.2;rw[hs0] at h;exact (Array.getElem?_eq_some_iff.1 h).1
   have mh:w1.heap[w.heap.size]? = some (.cells #[.slice none 0 0] 97 (0,0))/\w1.heap[w.heap.size+1]? = some (.cells #[.nilIface] 27 (0,0))/\w1.heap[w.heap.size+4]? = some (.deferred (some [])):=
    ⟨(hb1.block _ (by omega)).trans HR.out.1,(hb1.block _ (by omega)).trans HR.out.2.1,(hb1.block _ (by omega)).trans (by have h:=HR.out.2.2;rwa [hs0] at h)⟩
   have k0:w1.cell? ⟨w.heap.size,0,none⟩=some (.slice none 0 0):=by simp[World.cell?,mh.1]
   have k1:w1.cell? ⟨w.heap.size+1,0,none⟩=some .nilIface:=by simp[World.cell?,mh.2.1]
   have z0:w1.frozen? ⟨w.heap.size,0,none⟩=false:=by simp[World.frozen?,mh.1]
   have z1:w1.frozen? ⟨w.heap.size+1,0,none⟩=false:=by simp[World.frozen?,mh.2.1]
   have k2:w1.cell? ⟨w.heap.size+2,0,none⟩=some (.slice va (n0+1) vc):=(hb1.cell (p:=⟨w.heap.size+2,0,none⟩) (by show w.heap.size+2<W.heap.size;omega)).trans c2;have HR1:=(show Hid _ from mh);have HB1:=(show Hid _ from hb1);clear hb1 mh c2;rcases hout with⟨VH,rfl⟩|⟨VH,pb,rfl,hpb,p0,p1⟩
   ·have k2s:(w1.setCell ⟨w.heap.size,0,none⟩ (.slice va (n0+1) vc)).cell? ⟨w.heap.size+1,0,none⟩=some .nilIface:=by
     rw[World.cell?_setCell_other _ _ _ _ (by intro e;injection e with e1;omega)];exact k1
    go_wp2;obtain⟨q0,q1,q2⟩:=CY (a':=.slice va (n0+1) vc) (b':=.nilIface) HR1.out.1 HR1.out.2.1;refine⟨by simp,.inl ⟨_,_,rfl,run_takeDeferred ((q2 _ (by omega) (by omega)).trans HR1.out.2.2),?_⟩⟩;obtain⟨p0,p1⟩:=xB q0 q1 (.deferred none);refine⟨.tuple #[.slice va (n0+1) vc,.nilIface],by simp[results,Tryz.results97,go_sem,p0,p1],?_,.inr ⟨_,qN.out,?_,?_,jm.out,.inr ⟨?_,mm,?_,dG.out.1,?_,.inl ⟨?_,_,rfl,?_⟩⟩⟩⟩
    ·exact sj (((HB.out.trans (HB1.out.mono hwW)).setCell (Nat.le_refl _) _).setCell (by simp) _) _ (by omega) _
    ·rw[HLEN.out];omega
    ·rw[HLEN.out];omega
    ·rw[HLEN.out];omega
    ·rw[HLEN.out];omega
    ·rw[HLEN.out];exact dG.out.2
    ·rw[HLEN.out];exact VH
    ·rw[HLEN.out];have hw1:w1.ownsRow (w.heap.size+6) 130 2 (.slice va (n0+1) vc) (n0+1) (dR (gL l (n0+1))):=by
      obtain⟨h1,h2⟩:=HOWN.out;refine⟨h1,?_⟩;rcases h2 with h2 | ⟨g,cap,cur,hv,hg,hh,t⟩
      ·exact .inl h2
      ·exact .inr ⟨g,cap,cur,hv,hg,(HB1.out.block _ (aG hh)).trans hh,t⟩
     have h3:=Pt (nP (nP hw1 w.heap.size 0 (by omega) (.slice va (n0+1) vc)) (w.heap.size+1) 0 (by omega) .nilIface) (w.heap.size+4) (by omega) (.deferred none);obtain⟨h1,h2⟩:=h3;refine⟨h1,?_⟩;rcases h2 with h2 | ⟨g,cap,cur,hv,hg,t⟩
     ·exact .inl h2
     ·exact .inr ⟨g,cap,cur,hv,by omega,t⟩
   ·have HP:Hid (_/\_/\_):=⟨hpb,p0,p1⟩;clear p0 p1;go_wp2;obtain⟨q0,q1,q2⟩:=CY (a':=.slice none 0 0) (b':=.iface 116 (.pointer (some ⟨pb,0,none⟩))) HR1.out.1 HR1.out.2.1;refine⟨by simp,.inl ⟨_,_,rfl,run_takeDeferred ((q2 _ (by omega) (by omega)).trans HR1.out.2.2),?_⟩⟩;obtain⟨p0,p1⟩:=xB q0 q1 (.deferred none);refine⟨.tuple #[.slice none 0 0,.iface 116 (.pointer (some ⟨pb,0,none⟩))],by simp[results,Tryz.results97,go_sem,p0,p1],?_,.inr ⟨_,qN.out,?_,?_,jm.out,.inr ⟨?_,mm,?_,dG.out.1,?_,.inr ⟨?_,pb,rfl,?_,?_,?_⟩⟩⟩⟩
    ·exact sj (((HB.out.trans (HB1.out.mono hwW)).setCell (Nat.le_refl _) _).setCell (by simp) _) _ (by omega) _
    ·rw[HLEN.out];omega
    ·rw[HLEN.out];omega
    ·rw[HLEN.out];omega
    ·rw[HLEN.out];omega
    ·rw[HLEN.out];exact dG.out.2
    ·rw[HLEN.out];exact VH
    ·have:=HP.out.1;omega
    ·exact (Me _ (by have:=HP.out.1;omega) q2).trans HP.out.2.1
    ·exact (Me _ (by have:=HP.out.1;omega) q2).trans HP.out.2.2
 case stop=>
  intro W hmn hx hK;have HX:=(show Hid _ from hx);have HK:=(show Hid _ from hK);have qN:Hid (scan l [] [] [] false=none):=Tm l m (fun i hi=>⟨HMT.out i (by omega),QZ.out i hi⟩) (XJ.out hmn);clear hx hK hr0 hr1 hr2 hr3 z8;go_wp2;refine⟨by simp,.inl ⟨_,_,rfl,run_takeDeferred (by have h:=HK.out;rwa [hs0] at h),?_⟩⟩;obtain⟨p0,p1⟩:=xB HX.out.res HX.out.err (.deferred none);exact⟨.tuple #[.slice none 0 0,.iface 311 (.pointer (some (ea 0)))],by simp[results,Tryz.results97,go_sem,hs0,p0,p1],sj HX.out.aL _ (by omega) _,.inl ⟨qN.out,rfl⟩⟩
end Go.Proofs.YtcemkhalbjhdkaaGreatDoor
