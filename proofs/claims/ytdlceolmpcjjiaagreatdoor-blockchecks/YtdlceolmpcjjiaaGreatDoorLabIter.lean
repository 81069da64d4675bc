import Derived.Test.YtdlceolmpcjjiaaGreatDoorLabCutGroup
import Derived.OwnWalkIn
import Derived.TacticsInMore
import Derived.LoopNIn
import Derived.LoopIn
import Derived.RangeFuncNested
import Derived.RangeFuncBound
import Derived.RangeFuncCalls
import Derived.RangeFuncLeaves
import Derived.Shelf.Abstract
import Derived.Test.YtdlceolmpcjjiaaGreatDoorRefTicksGroup
namespace Go.Proofs.YtdlceolmpcjjiaaGreatDoor
open Go.RowKit
variable {P:Program}
def IQ (P:Program) (gf:Nat) (lb:Array Value) (encs:Nat->Array Value) (m n:Nat) (w:World):Prop:=
 ∀ (l:Nat) (J:Nat->World->Prop) (Jx:World->Prop) (W:World),Below w.heap.size w W ->
  (∀ k A q,J k A->J k (World.drewN A q)) ->
  (∀ k A,k<m->J k A->YieldAt Fence.wide 0 P l (encs k) A fun e A'=>e = .returned (.bool true)/\J (k+1) A') ->
  (∀ A,m<n->J m A->YieldAt Fence.wide 0 P l (encs m) A fun e A'=>e = .returned (.bool false)/\Jx A') ->
  J 0 W ->
  CallsIn Fence.wide 0 P gf (#[.func (.yield l) #[] #[]]++lb) W fun e W'=>(∃ v,e = .returned v)/\((m=n/\J n W')\/(m<n/\Jx W'))
def aan (R:World->Prop):Exit->Act->World->Prop
 | .normal,_,W=>R W
 | _,_,_=>False
def Zf (R:World->Prop):Exit->Act->World->Prop
 | .ret,_,W=>R W
 | _,_,_=>False
theorem OI {g:Operand} {ps:Array Tmp} {assign body:Code} {Q:Exit->Act->World->Prop} {a:Act} {w:World} {gf:Nat} {lb:Array Value}
  (hg:a.eval g = .func (.func gf) #[] lb) (eg:∀ args w,(callFunc gf args).run P w = .ok (.enter gf args) w)
  (m n:Nat) (encs:Nat->Array Value) (hps:∀ k,(encs k).size=ps.size) (hseq:IQ P gf lb encs m n w)
  (I:Nat->World->Prop) (Ix:World->Prop)
  (XA:∀ k A l o,w.heap.size<=l->l<=w.heap.size+1->I k A->I k (A.putObj l o)) (hId:∀ k A q,I k A->I k (World.drewN A q))
  (hXp:∀ A l o,w.heap.size<=l->l<=w.heap.size+1->Ix A->Ix (A.putObj l o))
  (h0:∀ o1 o2,I 0 ((w.alloc o1).alloc o2)) (a₁:Nat->Act)
  (hassign:∀ (l k:Nat) (W:World) (K:Act->World->Prop),K (a₁ k) W ->
   assign.wpIn (Fence.wide.inRound l) 0 P (Exit.then K (fun _ _ _=>False)) { tmps:=(ps.zip (encs k)).foldl (fun t (p,v)=>t.setIfInBounds p v) a.tmps,defers:=[] } W)
  (hbody:∀ (l k:Nat) (W:World),k<m->I k W->w.heap.size+1<W.heap.size ->
   body.wpIn (Fence.wide.inRound l) 0 P (aan fun W'=>I (k+1) W'/\W'.heap[w.heap.size]? = W.heap[w.heap.size]? /\ W'.heap[w.heap.size+1]? = W.heap[w.heap.size+1]?) (a₁ k) W)
  (hlast:∀ (l:Nat) (W:World),m<n->I m W->w.heap.size+1<W.heap.size ->
   body.wpIn (Fence.wide.inRound l) 0 P (Zf fun W'=>Ix W'/\W'.heap[w.heap.size]? = W.heap[w.heap.size]? /\ W'.heap[w.heap.size+1]? = W.heap[w.heap.size+1]?) (a₁ m) W)
  (hdone:∀ (W:World),m=n->I n W->W.heap[w.heap.size]? = some (.deferred (some []))->Q .normal { a with defers:={ target:=.collected w.heap.size,args:=#[] }::a.defers } W)
  (hstop:∀ (W:World),m<n->Ix W->W.heap[w.heap.size]? = some (.deferred (some []))->Code.ret.wp P Q { a with defers:={ target:=.collected w.heap.size,args:=#[] }::a.defers } W) :
  (Code.rangeFunc g ps assign body).wp P Q a w:=by
 refine (wpIn_wide (n:=0)).1 (wpIn_rangeFunc ?_);intro fn hfn;obtain⟨rec,hrec⟩:∃ rec:LoopState->Option Code->Loop,rec=fun st pe=>{ state:=st,pending:=pe,fn,tmps:=a.tmps,params:=ps,assign,body,defers:=w.heap.size }:=⟨_,rfl⟩
 obtain⟨W1,hW1⟩:∃ W1,W1=(w.alloc (.deferred (some []))).alloc (.loop (rec .ready none)):=⟨_,rfl⟩;have hL1:W1.heap[w.heap.size+1]? = some (.loop (rec .ready none)):=by
  rw[hW1];have:=World.alloc_heap_new (w.alloc (.deferred (some []))) (.loop (rec .ready none));rwa [World.size_alloc] at this
 have hD1:W1.heap[w.heap.size]? = some (.deferred (some [])):=by
  rw[hW1];exact (Below.heap_alloc _ _ _ (by simp)).trans (World.alloc_heap_new w _)
 have hb1:Below w.heap.size w W1:=by rw[hW1];exact ((Below.refl _ w).alloc (Nat.le_refl _) _).alloc (by simp) _
 have hi1:I 0 W1:=by rw[hW1];exact h0 _ _
 refine⟨w.heap.size+1,[{ target:=.collected w.heap.size,args:=#[] }],W1,{ target:=.fn (.func gf) lb,args:=#[.func (.yield (w.heap.size+1)) #[] #[]] },W1,gf,
  #[.func (.yield (w.heap.size+1)) #[] #[]]++lb,W1,?_,?_,?_,?_,fun h=>by simp[Fence.wide] at h,?_⟩
 ·rw[hW1,hrec];exact run_enterLoop_outer _ _ _ _ _
 ·simp only[resolve,hg];simp[go_sem]
 ·intro f' _;trivial
 ·simp[invoke,go_sem,eg]
 ·refine CallsIn.mono (hseq (w.heap.size+1)
   (fun k W=>I k W/\W.heap[w.heap.size+1]? = some (.loop (rec .ready none))/\W.heap[w.heap.size]? = some (.deferred (some [])))
   (fun W=>Ix W/\W.heap[w.heap.size+1]? = some (.loop (rec .done (some .ret)))/\W.heap[w.heap.size]? = some (.deferred (some [])))
   W1 hb1 ?_ ?_ ?_ ⟨hi1,hL1,hD1⟩) ?_
  ·rintro k A q ⟨hi,hl,hd⟩;exact⟨hId k A q hi,hl,hd⟩
  ·rintro k A hk ⟨hi,hl,hd⟩;have hal:=(Array.getElem?_eq_some_iff.1 hl).1;have hy:=run_yield (P:=P) (args:=encs k) hl (by rw[hrec];exact hps k);rw[hrec] at hy;refine⟨fn,_,assign,body,hy,roundIn_of_wpIn hfn (hassign _ k A _ ?_)⟩;clear hy;refine⟨_,run_beginRound hl (by rw[hrec]),?_⟩;obtain⟨Ab,vQ⟩:∃ Ab,Ab=A.putObj (w.heap.size+1) (.loop { rec .ready none with state:=.busy }):=⟨_,rfl⟩;rw[<-vQ];have hsb:Ab.heap.size=A.heap.size:=by rw[vQ];simp
   have hlb:Ab.heap[w.heap.size+1]? = some (.loop { rec .ready none with state:=.busy }):=by rw[vQ];exact World.putObj_heap_same (by omega)
   have hdb:Ab.heap[w.heap.size]? = some (.deferred (some [])):=by rw[vQ,World.putObj_heap_other (by omega)];exact hd
   have hib:I k Ab:=by rw[vQ];exact XA k A _ _ (by omega) (by omega) hi
   refine wpIn_mono (hbody _ k Ab hk hib (by omega)) ?_;rintro e a3 W3 hp;cases e with
   | normal=>
    obtain⟨hi3,hd3,hl3⟩:=hp;have LQ:=hl3.trans hlb;have afM:=(Array.getElem?_eq_some_iff.1 LQ).1;refine⟨_,_,run_endRound (P:=P) none LQ,rfl,XA _ _ _ _ (by omega) (by omega) hi3,?_,?_⟩
    ·rw[World.putObj_heap_same (by omega),hrec];rfl
    ·rw[World.putObj_heap_other (by omega)];exact hd3.trans hdb
   | ret=>exact hp.elim
   | exit id=>exact hp.elim
   | goto t=>exact hp.elim
   | panic ch=>exact hp.elim
   | outgrown=>exact hp.elim
  ·rintro A hmn ⟨hi,hl,hd⟩;have hal:=(Array.getElem?_eq_some_iff.1 hl).1;have hy:=run_yield (P:=P) (args:=encs m) hl (by rw[hrec];exact hps m);rw[hrec] at hy;refine⟨fn,_,assign,body,hy,roundIn_of_wpIn hfn (hassign _ m A _ ?_)⟩;clear hy;refine⟨_,run_beginRound hl (by rw[hrec]),?_⟩;obtain⟨Ab,vQ⟩:∃ Ab,Ab=A.putObj (w.heap.size+1) (.loop { rec .ready none with state:=.busy }):=⟨_,rfl⟩;rw[<-vQ];have hsb:Ab.heap.size=A.heap.size:=by rw[vQ];simp
   have hlb:Ab.heap[w.heap.size+1]? = some (.loop { rec .ready none with state:=.busy }):=by rw[vQ];exact World.putObj_heap_same (by omega)
   have hdb:Ab.heap[w.heap.size]? = some (.deferred (some [])):=by rw[vQ,World.putObj_heap_other (by omega)];exact hd
   have hib:I m Ab:=by rw[vQ];exact XA m A _ _ (by omega) (by omega) hi
   refine wpIn_mono (hlast _ Ab hmn hib (by omega)) ?_;rintro e a3 W3 hp;cases e with
   | ret=>
    obtain⟨hi3,hd3,hl3⟩:=hp;have LQ:=hl3.trans hlb;have afM:=(Array.getElem?_eq_some_iff.1 LQ).1;refine⟨_,_,run_endRound (P:=P) (some .ret) LQ,rfl,hXp _ _ _ (by omega) (by omega) hi3,?_,?_⟩
    ·rw[World.putObj_heap_same (by omega),hrec];rfl
    ·rw[World.putObj_heap_other (by omega)];exact hd3.trans hdb
   | normal=>exact hp.elim
   | exit id=>exact hp.elim
   | goto t=>exact hp.elim
   | panic ch=>exact hp.elim
   | outgrown=>exact hp.elim
  ·rintro e W2 ⟨⟨v,rfl⟩,h⟩;rcases h with⟨hmn,hi,hl,hd⟩|⟨hmn,hi,hl,hd⟩
   ·refine⟨none,_,by have:=run_endLoop (P:=P) hl (by rw[hrec];simp);rw[hrec] at this;exact this,hdone _ hmn (XA _ _ _ _ (by omega) (by omega) hi) ((World.putObj_heap_other (by omega)).trans hd)⟩
   ·refine⟨some .ret,_,by have:=run_endLoop (P:=P) hl (by rw[hrec];simp);rw[hrec] at this;exact this,?_⟩;exact wpIn_wide.2 (hstop _ hmn (hXp _ _ _ (by omega) (by omega) hi) ((World.putObj_heap_other (by omega)).trans hd))
end Go.Proofs.YtdlceolmpcjjiaaGreatDoor
set_option maxRecDepth 100000
set_option maxHeartbeats 2000000
namespace Go.Proofs.YtdlceolmpcjjiaaGreatDoor
open Go.RowKit Go.Shelf bF
attribute [local go_sem] Oper.semAt_some
def QM:Value->Nat
 | .string s=>s.size
 | _=>0
def QN:Value->Nat
 | .bool true=>1
 | _=>0
theorem QO (s:ByteArray) (w:World) :
  Calls Tryz.prog 125 #[.string s] w fun e w'=>e = .returned (.func (.func 155) #[] #[.pointer (some ⟨w.heap.size,0,none⟩)])/\w'=w.alloc (.cells #[.string s] 9):=by
 go_enter Tryz.func125,Tryz.ntmps125;go_wp2;go_ret;exact⟨rfl,rfl⟩
theorem KM (Bn:Nat) (s:ByteArray) (w:World) (hs:s.size<=1000000) (m n:Nat) (hm:m<=n) (hn1:1<=n) (hmore:∀ i,i<n->ng s.data.toList i=decide (i+1<n))
  (FK:w.cell? ⟨Bn,0,none⟩=some (.string s)) :
  IQ Tryz.prog 155 #[.pointer (some ⟨Bn,0,none⟩)] (fun k=>#[.string (txt (kM s.data.toList k))]) m n w:=by
 intro l J Jx W hbW hJd Tg hJx hJ0;have hBn:Bn<w.heap.size:=World.block_lt_of_cell? w ⟨Bn,0,none⟩ FK;have QS:W.cell? ⟨Bn,0,none⟩=some (.string s):=(hbW.cell (p:=⟨Bn,0,none⟩) hBn).trans FK;have hsz:∀ k,(txt (fP s.data.toList k)).size<=1000000:=fun k=>by
  rw[bM];have h1:=IU s.data.toList k;have h2:s.data.toList.length=s.size:=Array.length_toList;omega
 have eP:=(show Hid _ from hsz);have HJd:=(show Hid _ from hJd);have HJy:=(show Hid _ from Tg);have HJx:=(show Hid _ from hJx);have HJ0:=(show Hid _ from hJ0);have HM:=(show Hid _ from hmore);clear hJ0 hJd Tg hJx hmore hsz FK hbW;refine callsIn_of_wp Tryz.func155 rfl trivial ?_ rfl;simp only[Tryz.ntmps155,List.size_toArray,List.length_cons,List.length_nil,Nat.reduceAdd,Nat.reduceSub,Array.replicate_succ,Array.replicate_zero,List.push_toArray,List.append_toArray,List.nil_append,List.cons_append];gi_wp2;gi_loopw [3,4,5] (fun r f _ wr=>∃ k:Nat,k<=m/\r = .string (txt (fP s.data.toList k))/\f = .bool (decide (k<n))/\J k wr) (fun r f _ _=>QM r+QN f);case atStart=>exact⟨0,Nat.zero_le _,rfl,by simp;omega,HJ0.out⟩
 case round=>
  obtain⟨k,hkm,rfl,rfl,hJ⟩:=hrel;have HJ:=(show Hid _ from hJ);clear hJ HJ0;by_cases hkn:k<n
  ·rw[show decide (k<n)=true from decide_eq_true hkn];have hcut:=fun w0=>Zg (txt (fP s.data.toList k)) w0 (eP.out k)
   have hp:txt (bP 44 (txt (fP s.data.toList k)).data.toList).1=txt (kM s.data.toList k):=rfl;have hr:txt (bP 44 (txt (fP s.data.toList k)).data.toList).2.1=txt (fP s.data.toList (k+1)):=rfl;have hf:(bP 44 (txt (fP s.data.toList k)).data.toList).2.2=ng s.data.toList k:=rfl;rw[hp,hr,hf,HM.out k hkn] at hcut;have zG:=(show Hid _ from hcut);have XB:(fP s.data.toList (k+1)).length+(if k+1<n then 1 else 0)<(fP s.data.toList k).length+1:=by
    have hc:=uS 44 (fP s.data.toList k);have hmk:=HM.out k hkn;by_cases hk1:k+1<n
    ·rw[decide_eq_true hk1] at hmk;have:=hc.2.2 hmk;rw[if_pos hk1];simp only[fP];omega
    ·rw[decide_eq_false hk1] at hmk;have hz:fP s.data.toList (k+1) = []:=Jw 44 _ hmk;rw[if_neg hk1,hz];simp
   have ads:=(show Hid _ from XB);clear hcut hp hr hf XB;have hrs:(txt (fP s.data.toList k)).size=(fP s.data.toList k).length:=bM _;generalize txt (fP s.data.toList k)=r0 at *;have Ti:=(show Hid _ from hrs);clear hrs;gi_wp2_with fail;refine⟨trivial,rfl,?_⟩;refine CallsIn.mono (callsIn_wide.2 (zG.out _)) ?_;rintro e w1 ⟨rfl,q,rfl⟩;have LZ:=HJd.out k wr q HJ.out;by_cases hlt:k<m
   ·obtain⟨fn,tmps,assign,body,hy,hR⟩:=HJy.out k _ hlt LZ;have HR:=(show Hid _ from hR);clear hR LZ;gi_wp2;refine⟨rfl,?_⟩;refine RoundIn.mono HR.out ?_;rintro e W3 ⟨rfl,hJ3⟩;have HJ3:=(show Hid _ from hJ3);clear hJ3 hy;gi_wp2;go_roundw;case rel=>exact⟨k+1,by omega,rfl,rfl,HJ3.out⟩
    case measure=>
     have h1:=ads.out;have h2:=Ti.out;have h3:(txt (fP s.data.toList (k+1))).size=(fP s.data.toList (k+1)).length:=bM _;by_cases hk1:k+1<n
     ·rw[if_pos hk1] at h1;simp[QM,QN,hk1];omega
     ·rw[if_neg hk1] at h1;simp[QM,QN,hk1];omega
   ·have Le:k=m:=by omega
    subst Le;obtain⟨fn,tmps,assign,body,hy,hR⟩:=HJx.out _ hkn LZ;have HR:=(show Hid _ from hR);clear hR LZ;gi_wp2;refine⟨rfl,?_⟩;refine RoundIn.mono HR.out ?_;rintro e W3 ⟨rfl,hJ3⟩;have HJ3:=(show Hid _ from hJ3);clear hJ3 hy;gi_wp2;exact bodyPost_ret (v:=.tuple #[]) (results_none rfl _ _ _) rfl ⟨⟨_,rfl⟩,.inr ⟨hkn,HJ3.out⟩⟩
  ·have h1:k=n:=by omega
   have h2:m=n:=by omega
   rw[show decide (k<n)=false from decide_eq_false hkn];subst h1;gi_wp2;go_end0;exact⟨⟨_,rfl⟩,.inl ⟨h2,HJ.out⟩⟩
end Go.Proofs.YtdlceolmpcjjiaaGreatDoor
