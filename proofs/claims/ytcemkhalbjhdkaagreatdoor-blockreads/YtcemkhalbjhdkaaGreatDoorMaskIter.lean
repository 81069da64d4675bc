import Derived.Test.YtcemkhalbjhdkaaGreatDoorMaskWinGroup
import Derived.Test.YtcemkhalbjhdkaaGreatDoorSlicesIn
import Derived.Test.YtcemkhalbjhdkaaGreatDoorPutGroup
import Derived.OwnWalkIn
import Derived.TacticsInMore
import Derived.LoopNIn
import Derived.LoopIn
import Derived.RangeFuncNested
import Derived.RangeFuncBound
import Derived.RangeFuncCalls
import Derived.RangeFuncLeaves
import Derived.Shelf.Abstract
import Derived.Test.YtcemkhalbjhdkaaGreatDoorRows1Group
namespace Go.Proofs.YtcemkhalbjhdkaaGreatDoor
open Go.RowKit
variable {P:Program}
def roundEnd (R:World->Prop):Exit->Act->World->Prop
 | .normal,_,W=>R W
 | _,_,_=>False
def Rounds (P:Program) (gf:Nat) (lb:Array Value) (encs:Nat->Array Value) (m:Nat) (Pr:List Nat) (w:World):Prop:=
 ∀ (l:Nat) (J:Nat->List Nat->World->Prop) (S0:List Nat) (W:World),Below w.heap.size w W ->
  (∀ k S A,J k S A->∀ b,b∈S->b<A.heap.size) ->
  (∀ k S A B,J k S A->Kept [W.heap.size] A B->W.heap.size∉S->J k S B) ->
  (∀ k S A,1<=k->k<m->J k S A->YieldAt Fence.wide 0 P l (encs k) A fun e A'=>e = .returned (.bool true)/\∃ S',J (k+1) S' A'/\Kept S A A'/\∀ b,b∈S'->b∈S\/A.heap.size<=b) ->
  J 1 S0 W->(∀ b,b∈S0->b∉Pr) ->
  CallsIn Fence.wide 0 P gf (#[.func (.yield l) #[] #[]]++lb) W fun e W'=>(∃ v,e = .returned v)/\∃ S',J m S' W'
theorem Kept.put {S:List Nat} {A W:World} (h:Kept S A W) (l:Nat) (o:Obj) (hl:l∈S\/A.heap.size<=l):Kept S A (W.putObj l o):=
 h.trans (T:=[l]) ⟨rfl,rfl,rfl,by simp,fun k _ hm=>World.putObj_heap_other (by simpa using hm)⟩ (fun x hx=>by simp at hx;subst hx;exact hl)
theorem Ar {g:Operand} {ps:Array Tmp} {assign body:Code} {Q:Exit->Act->World->Prop} {a:Act} {w:World} {gf:Nat} {lb:Array Value}
  (hg:a.eval g = .func (.func gf) #[] lb) (eg:∀ args w,(callFunc gf args).run P w = .ok (.enter gf args) w)
  (m:Nat) (encs:Nat->Array Value) (hps:∀ k,(encs k).size=ps.size) (Pr:List Nat) (hPr:∀ b,b∈Pr->b<w.heap.size) (hseq:Rounds P gf lb encs m Pr w)
  (I:Nat->List Nat->World->Prop) (hlt:∀ k S A,I k S A->∀ b,b∈S->b<A.heap.size)
  (hI:∀ k S T A B,I k S A->Kept T A B->(∀ b,b∈T->b∉S/\w.heap.size<=b)->I k S B)
  (S0:List Nat) (h0:I 1 S0 w) (hS0:∀ b,b∈S0->b∉Pr) (Fm:Nat->Obj) (a₁:Nat->Nat->Act)
  (hassign:∀ (l k:Nat) (W:World) (K:Act->World->Prop),K (a₁ k W.heap.size) (W.alloc (Fm k)) ->
   assign.wpIn (Fence.wide.inRound l) 0 P (Exit.then K (fun _ _ _=>False)) { tmps:=(ps.zip (encs k)).foldl (fun t (p,v)=>t.setIfInBounds p v) a.tmps,defers:=[] } W)
  (hbody:∀ (l k:Nat) (S:List Nat) (W:World) (p:Nat),1<=k->k<m->I k S W->W.heap[p]? = some (Fm k)->p∉S ->
   body.wpIn (Fence.wide.inRound l) 0 P (roundEnd fun W'=>∃ S',I (k+1) S' W'/\Kept S W W'/\∀ b,b∈S'->b∈S\/W.heap.size<=b) (a₁ k p) W)
  (hdone:∀ (D:Nat) (S:List Nat) (W:World),w.heap.size<=D->I m S W->D∉S->W.heap[D]? = some (.deferred (some []))->Q .normal { a with defers:={ target:=.collected D,args:=#[] }::a.defers } W) :
  (Code.rangeFunc g ps assign body).wp P Q a w:=by
 refine (wpIn_wide (n:=0)).1 (wpIn_rangeFunc ?_);intro fn hfn;obtain⟨rec,hrec⟩:∃ rec:LoopState->Loop,rec=fun st=>{ state:=st,pending:=none,fn,tmps:=a.tmps,params:=ps,assign,body,defers:=w.heap.size }:=⟨_,rfl⟩
 obtain⟨W1,hW1⟩:∃ W1,W1=(w.alloc (.deferred (some []))).alloc (.loop (rec .ready)):=⟨_,rfl⟩;have hs1:W1.heap.size=w.heap.size+2:=by rw[hW1];simp
 have hL1:W1.heap[w.heap.size+1]? = some (.loop (rec .ready)):=by
  rw[hW1];have:=World.alloc_heap_new (w.alloc (.deferred (some []))) (.loop (rec .ready));rwa [World.size_alloc] at this
 have hD1:W1.heap[w.heap.size]? = some (.deferred (some [])):=by
  rw[hW1];exact (Below.heap_alloc _ _ _ (by simp)).trans (World.alloc_heap_new w _)
 have hk1:Kept [] w W1:=by rw[hW1];exact ((Kept.refl _ _).alloc _).alloc _
 have hb1:Below w.heap.size w W1:=by rw[hW1];exact ((Below.refl _ w).alloc (Nat.le_refl _) _).alloc (by simp) _
 refine⟨w.heap.size+1,[{ target:=.collected w.heap.size,args:=#[] }],W1,{ target:=.fn (.func gf) lb,args:=#[.func (.yield (w.heap.size+1)) #[] #[]] },W1,gf,
  #[.func (.yield (w.heap.size+1)) #[] #[]]++lb,W1,?_,?_,?_,?_,fun h=>by simp[Fence.wide] at h,?_⟩
 ·rw[hW1,hrec];exact run_enterLoop_outer _ _ _ _ _
 ·simp only[resolve,hg];simp[go_sem]
 ·intro f' _;trivial
 ·simp[invoke,go_sem,eg]
 ·refine CallsIn.mono (hseq (w.heap.size+1) (fun k S' W=>∃ S,S'=(w.heap.size+1)::S/\I k S W/\W.heap[w.heap.size+1]? = some (.loop (rec .ready))/\W.heap[w.heap.size]? = some (.deferred (some []))/\w.heap.size+1∉S/\w.heap.size∉S)
   ((w.heap.size+1)::S0) W1 hb1 ?_ ?_ ?_ ?_ ?_) ?_
  ·rintro k S' A ⟨S,rfl,hi,hl,hd,hnl,hnd⟩ b hb;rcases List.mem_cons.1 hb with rfl | hb
   ·exact (Array.getElem?_eq_some_iff.1 hl).1
   ·exact hlt k S A hi b hb
  ·rintro k S' A B ⟨S,rfl,hi,hl,hd,hnl,hnd⟩ hk hq;rw[hs1] at hk hq;have hal:=(Array.getElem?_eq_some_iff.1 hl).1;refine⟨S,rfl,hI k S _ A B hi hk (fun b hb=>?_),(hk.block _ hal (by simp)).trans hl,(hk.block _ (by omega) (by simp)).trans hd,hnl,hnd⟩;simp at hb;subst hb;exact⟨fun h=>hq (List.mem_cons_of_mem _ h),by omega⟩
  ·rintro k S' A JO hkm ⟨S,rfl,hi,hl,hd,hnl,hnd⟩;have hal:=(Array.getElem?_eq_some_iff.1 hl).1;have hy:=run_yield (P:=P) (args:=encs k) hl (by rw[hrec];exact hps k);rw[hrec] at hy;refine⟨fn,_,assign,body,hy,roundIn_of_wpIn hfn (hassign _ k A _ ?_)⟩;clear hy;have hl2:(A.alloc (Fm k)).heap[w.heap.size+1]? = some (.loop (rec .ready)):=(Below.heap_alloc _ _ _ hal).trans hl;refine⟨_,run_beginRound hl2 (by rw[hrec]),?_⟩;obtain⟨Ab,sV⟩:∃ Ab,Ab=(A.alloc (Fm k)).putObj (w.heap.size+1) (.loop { rec .ready with state:=.busy }):=⟨_,rfl⟩;rw[<-sV];have hkb:Kept [w.heap.size+1] A Ab:=by rw[sV];exact ((Kept.refl _ _).alloc _).put _ _ (.inl (by simp))
   have hsb:Ab.heap.size=A.heap.size+1:=by rw[sV];simp
   have hlb:Ab.heap[w.heap.size+1]? = some (.loop { rec .ready with state:=.busy }):=by rw[sV];exact World.putObj_heap_same (by simp;omega)
   have hib:I k S Ab:=hI k S _ A Ab hi hkb (fun b hb=>by simp at hb;subst hb;exact⟨hnl,by omega⟩);have hpb:Ab.heap[A.heap.size]? = some (Fm k):=by rw[sV,World.putObj_heap_other (by omega)];exact World.alloc_heap_new _ _
   refine wpIn_mono (hbody _ k S Ab A.heap.size JO hkm hib hpb (fun h=>by have:=hlt k S A hi _ h;omega)) ?_;rintro e a3 W3 hp;cases e with
   | normal=>
    obtain⟨S3,hi3,hk3,XO⟩:=hp;have hl3:=(hk3.block _ (by omega) hnl).trans hlb;have hs3:=hk3.size;have XP:w.heap.size+1∉S3:=fun h=>by rcases XO _ h with h | h;exact hnl h;omega
    have acy:w.heap.size∉S3:=fun h=>by rcases XO _ h with h | h;exact hnd h;omega
    refine⟨_,_,run_endRound (P:=P) none hl3,rfl,(w.heap.size+1)::S3,⟨S3,rfl,?_,?_,?_,XP,acy⟩,?_,?_⟩
    ·exact hI (k+1) S3 [w.heap.size+1] W3 _ hi3 ((Kept.refl _ _).put _ _ (.inl (by simp))) (fun b hb=>by simp at hb;subst hb;exact⟨XP,by omega⟩)
    ·rw[World.putObj_heap_same (by omega),hrec];rfl
    ·rw[World.putObj_heap_other (by omega),hk3.block _ (by omega) hnd,hkb.block _ (by omega) (by simp)];exact hd
    ·have h1:Kept ((w.heap.size+1)::S) A Ab:=⟨hkb.os,hkb.tape,hkb.output,hkb.size,fun b hb hm=>hkb.block b hb (fun h=>hm (by simp at h;subst h;simp))⟩;exact (h1.trans hk3 (fun x hx=>.inl (List.mem_cons_of_mem _ hx))).put _ _ (.inl (by simp))
    ·intro b hb;rcases List.mem_cons.1 hb with rfl | hb
     ·exact .inl (by simp)
     ·rcases XO b hb with h | h
      ·exact .inl (List.mem_cons_of_mem _ h)
      ·exact .inr (by omega)
   | ret=>exact hp.elim
   | exit id=>exact hp.elim
   | goto t=>exact hp.elim
   | panic ch=>exact hp.elim
   | outgrown=>exact hp.elim
  ·refine⟨S0,rfl,hI 1 S0 [] w W1 h0 hk1 (fun b hb=>by cases hb),hL1,hD1,?_,?_⟩
   ·intro h;have:=hlt 1 S0 w h0 _ h;omega
   ·intro h;have:=hlt 1 S0 w h0 _ h;omega
  ·intro b hb hp;rcases List.mem_cons.1 hb with rfl | hb
   ·have:=hPr _ hp;omega
   ·exact hS0 b hb hp
  ·rintro e W2 ⟨⟨v,rfl⟩,S',S,rfl,hi,hl,hd,hnl,hnd⟩;have hal:=(Array.getElem?_eq_some_iff.1 hl).1;refine⟨none,_,by have:=run_endLoop (P:=P) hl (by rw[hrec];simp);rw[hrec] at this;exact this,hdone _ S _ (Nat.le_refl _) ?_ hnd ((World.putObj_heap_other (by omega)).trans hd)⟩;exact hI m S [w.heap.size+1] W2 _ hi ((Kept.refl _ _).put _ _ (.inl (by simp))) (fun b hb=>by simp at hb;subst hb;exact⟨hnl,by omega⟩)
end Go.Proofs.YtcemkhalbjhdkaaGreatDoor
set_option maxRecDepth 100000
set_option maxHeartbeats 2000000
namespace Go.Proofs.YtcemkhalbjhdkaaGreatDoor
open Go.RowKit Go.Shelf
attribute [local go_sem] Oper.semAt_some
theorem Cc (la:Option Addr) (m c:Nat) (w:World) :
  Calls Tryz.prog 164 #[.slice la m c] w fun e w'=>e = .returned (.func (.func 199) #[] #[.pointer (some ⟨w.heap.size,0,none⟩)])/\w'=w.alloc (.cells #[.slice la m c] 138):=by
 go_enter Tryz.func164,Tryz.ntmps164;go_wp2;go_ret;exact⟨rfl,rfl⟩
def l8 (V:Nat->Nat) (k:Nat):Nat:=V k ^^^ V (k-1)
def ng (V:Nat->Nat) (k:Nat):Value:=dA (aj.dR (aj.aK V k) (l8 V k)) (aj.aK V (k+1)).2.1 (aj.aW (aj.aK V (k+1)))
def rY (V:Nat->Nat) (k:Nat):Array Value:=#[ng V k,.int .u64 (l8 V k:Int)]
structure CV (wr:World) (Bn lb lo m c:Nat) (V:Nat->Nat) (q k:Nat):Prop where
 box:wr.cell? ⟨Bn,0,none⟩=some (.slice (some ⟨lb,lo,none⟩) m c)
 vals:∀ i,i<m->wr.cell? ⟨lb,lo+i,none⟩=some (.int .u64 (V i:Int))
 tab:Tab wr
 win:wr.heap[q]? = some (.cells #[.int .i64 ((aj.aK V k).2.1:Int),.int .i64 ((aj.aW (aj.aK V k):Nat):Int)] 235 (0,0))
theorem CV.kept {wr wr':World} {Bn lb lo m c:Nat} {V:Nat->Nat} {q k:Nat} (h:CV wr Bn lb lo m c V q k) {S:List Nat} (hk:Kept S wr wr') (h1:Bn∉S) (h2:lb∉S) (h3:17∉S) (h4:q∉S):CV wr' Bn lb lo m c V q k:=
 ⟨hk.cell h.box h1,fun i hi=>hk.cell (h.vals i hi) h2,fun j hj=>hk.cell (h.tab j hj) h3,(hk.block q (lt_of_block h.win) h4).trans h.win⟩
theorem pV (V:Nat->Nat) (n:Nat) (hV:∀ i,i<n->V i<18446744073709551616):∀ k,k<=n->aj.pF (aj.aK V k)
 | 0,_=>by simp[aj.aK,aj.pF]
 | k+1,h=>by
  by_cases hk:k=0
  ·subst hk;rw[aj.kF];simp[aj.pF]
  ·rw[aj.jZ V k hk];exact aj.NS (pV V n hV k (by omega)) _ (aj.qx _ _ (hV k (by omega)) (hV (k-1) (by omega)))
theorem wP (Bn lb lo m c:Nat) (V:Nat->Nat) (w:World) (hm1:1<=m) (hm:m<=1000) (hV:∀ i,i<m->V i<18446744073709551616)
  (Cx:w.cell? ⟨Bn,0,none⟩=some (.slice (some ⟨lb,lo,none⟩) m c)) (pG:∀ i,i<m->w.cell? ⟨lb,lo+i,none⟩=some (.int .u64 (V i:Int))) (hT:Tab w) :
  Rounds Tryz.prog 199 #[.pointer (some ⟨Bn,0,none⟩)] (rY V) m [Bn,lb,17] w:=by
 intro l J S0 W hbW SV X5 Pt hJ0 hS0;have WX:=lt_of_cell Cx;have hlb:=lt_of_cell (pG 0 hm1);have Mg:=hbW.size;have Nk:W.cell? ⟨Bn,0,none⟩=some (.slice (some ⟨lb,lo,none⟩) m c):=(hbW.cell (p:=⟨Bn,0,none⟩) WX).trans Cx;have Qj:∀ i,i<m->W.cell? ⟨lb,lo+i,none⟩=some (.int .u64 (V i:Int)):=fun i hi=>(hbW.cell (p:=⟨lb,lo+i,none⟩) hlb).trans (pG i hi)
 have hTW:Tab W:=hT.below hbW hT.lt;have hG:=hT.lt;obtain⟨wa,bF⟩:∃ wa,wa=W.alloc (.cells #[.int .i64 0,.int .i64 0] 235):=⟨_,rfl⟩;have hka:Kept [W.heap.size] W wa:=by rw[bF];exact (Kept.refl _ _).alloc _
 have hsa:wa.heap.size=W.heap.size+1:=by rw[bF];simp
 have X6:W.heap.size∉S0:=fun h=>by have:=SV 1 S0 W hJ0 _ h;omega
 have hIt:CV wa Bn lb lo m c V W.heap.size 1:=by
  refine⟨hka.cell Nk (by simp;omega),fun i hi=>hka.cell (Qj i hi) (by simp;omega),fun j hj=>hka.cell (hTW j hj) (by simp;omega),?_⟩;rw[bF,aj.kF];exact heap_alloc_new _ _
 have HIT:=(show Hid _ from hIt);have HJA:=(show Hid _ from X5 1 S0 W wa hJ0 hka X6);have acB:=(show Hid _ from SV);have HJk:=(show Hid _ from X5);have WY:=(show Hid _ from Pt);have kG:Hid (∀ wx,wx=W.alloc (.cells #[.int .i64 0,.int .i64 0] 235)->wx=wa):=fun wx h=>h.trans bF.symm
 have Qk:Hid (∀ b,b∈S0->b ∉ [Bn,lb,17]/\b≠W.heap.size):=fun b hb=>⟨hS0 b hb,fun e=>X6 (e ▸ hb)⟩
 have HV:=(show Hid _ from hV);clear hJ0 SV X5 Pt bF hka hIt Qj pG hT hTW hS0 hV Cx Nk;refine callsIn_of_wp Tryz.func199 rfl trivial ?_ rfl;simp only[Tryz.ntmps199,List.size_toArray,List.length_cons,List.length_nil,Nat.reduceAdd,Nat.reduceSub,Array.replicate_succ,Array.replicate_zero,List.push_toArray,List.append_toArray,List.nil_append,List.cons_append];gi_wp2;rw[kG.out _ rfl];gi_loopw [4,5,6] (fun i _ _ wr=>∃ (k:Nat) (S:List Nat),1<=k/\k<=m/\i = .int .i64 k/\J k S wr/\(∀ b,b∈S->b ∉ [Bn,lb,17]/\b≠W.heap.size)/\CV wr Bn lb lo m c V W.heap.size k) (fun i _ _ _=>m-(intOf i).toNat);case atStart=>exact⟨1,S0,Nat.le_refl _,hm1,rfl,HJA.out,Qk.out,HIT.out⟩
 case round=>
  obtain⟨k,S,hk1,hkm,rfl,hJ,X7,hit⟩:=hrel;clear HIT HJA;have hb0:=hit.box;by_cases hlt:k<m
  ·obtain⟨j,rfl⟩:∃ j,k=j+1:=⟨k-1,by omega⟩;have hc1:wr.cell? ⟨lb,lo+(j+1),none⟩=some (.int .u64 (V (j+1):Int)):=hit.vals (j+1) hlt;have hc0:wr.cell? ⟨lb,lo+j,none⟩=some (.int .u64 (V j:Int)):=hit.vals j (by omega);have hv1:=HV.out (j+1) hlt;have hv0:=HV.out j (by omega);have yM:=u64_xor_nat (V (j+1)) (V j) hv1 hv0;have hxl:=aj.qx (V (j+1)) (V j) hv1 hv0;have hxe:l8 V (j+1)=V (j+1) ^^^ V j:=rfl;have hwo:=pV V m HV.out (j+1) (by omega);have hst:=aj.jZ V (j+1) (by omega);obtain⟨x,hx⟩:∃ x,x=V (j+1) ^^^ V j:=⟨_,rfl⟩;have hst':aj.aK V (j+1+1)=aj.bO (aj.aK V (j+1)) x:=by rw[hst,hx];rfl
   rw[<-hx] at yM hxl hxe;have hfo:=fun w0 hT0=>BZ (aj.aK V (j+1)) x w0 hwo hxl hT0
   rw[<-hst'] at hfo;obtain⟨L,hL⟩:∃ L,L=(aj.aK V (j+1)).2.1:=⟨_,rfl⟩;obtain⟨Wd,hWd⟩:∃ Wd,Wd=aj.aW (aj.aK V (j+1)):=⟨_,rfl⟩;have hwin:=hit.win;rw[<-hL,<-hWd] at hfo hwin;unfold jl dA at hfo;have q0:wr.cell? ⟨W.heap.size,0,none⟩=some (.int .i64 (L:Int)):=ak hwin 0;have q1:wr.cell? ⟨W.heap.size,1,none⟩=some (.int .i64 (Wd:Int)):=ak hwin 1;have hargs:rY V (j+1)=#[.agg #[.int .i64 ((aj.dR (aj.aK V (j+1)) x:Nat):Int),.int .i64 ((aj.aK V (j+1+1)).2.1:Int),.int .i64 ((aj.aW (aj.aK V (j+1+1)):Nat):Int)],.int .u64 (x:Int)]:=by
    unfold rY ng dA;rw[hxe]
   obtain⟨y,hy0⟩:∃ y,y=aj.dR (aj.aK V (j+1)) x:=⟨_,rfl⟩;obtain⟨L2,hL2⟩:∃ L2,L2=(aj.aK V (j+1+1)).2.1:=⟨_,rfl⟩;obtain⟨W2,hW2⟩:∃ W2,W2=aj.aW (aj.aK V (j+1+1)):=⟨_,rfl⟩;rw[<-hy0,<-hL2,<-hW2] at hfo hargs;have HL2:=(show Hid _ from hL2);have HW2:=(show Hid _ from hW2);generalize hV1:V (j+1)=V1 at *;generalize hV0:V j=V0 at *;have bJ:=(show Hid _ from hfo);have HIT:=(show Hid _ from hit);have HJ:=(show Hid _ from hJ);have Ql:=(show Hid _ from X7);have X8:=(show Hid _ from hargs);have pR:=(show Hid _ from hwin);have hjI:(j:Int)+1<(m:Int):=by omega
   clear hfo hit hJ X7 hxe hwin hst hst' hwo hv1 hv0 hx hL hWd hV1 hV0 hxl hy0 hL2 hW2 hargs;gi_wp2;refine wpIn_wide.2 ?_;go_quiet (fail);gi_wp2_with fail;refine⟨trivial,rfl,?_⟩;refine CallsIn.mono (callsIn_wide.2 (bJ.out _ (fun i hi=>HIT.out.tab i hi))) ?_;rintro e w1 ⟨rfl,hb1⟩;have hs1:wr.heap.size<=w1.heap.size:=hb1.size;have X9:Kept [W.heap.size] wr w1:=⟨hb1.os,hb1.tape,hb1.output,hb1.size,fun b hb _=>hb1.block b hb⟩;obtain⟨A,hA⟩:∃ A,A=w1.alloc (.cells #[.int .i64 (y:Int),.int .i64 (L2:Int),.int .i64 (W2:Int)] 237):=⟨_,rfl⟩;have hkA:Kept [W.heap.size] wr A:=by rw[hA];exact X9.alloc _
   have Ya:Kept [] wr A:=by rw[hA];exact (Kept.of_below (S:=[]) (⟨hb1.os,hb1.tape,hb1.output,hb1.size,hb1.block⟩:Below wr.heap.size wr w1)).alloc _
   have UY:W.heap.size∉S:=fun h=>(Ql.out _ h).2 rfl
   have Jb:=HJk.out _ S wr A HJ.out hkA UY;have hpA:A.heap[w1.heap.size]? = some (.cells #[.int .i64 (y:Int),.int .i64 (L2:Int),.int .i64 (W2:Int)] 237 (0,0)):=by rw[hA];exact heap_alloc_new _ _
   have hsA:A.heap.size=w1.heap.size+1:=by rw[hA];simp
   have Yb:w1.heap.size∉S:=fun h=>by have:=acB.out _ S wr HJ.out _ h;omega
   obtain⟨fn,tmps,assign,body,hy,hR⟩:=WY.out (j+1) S A hk1 hlt Jb;rw[X8.out] at hy;rw[hA] at hy;have SX:=(show Hid _ from HIT.out.kept Ya (by simp) (by simp) (by simp) (by simp));have HR:=(show Hid _ from hR);have DI:=(show Hid _ from hpA);have Qm:=(show Hid _ from hA);clear hR hb1 X9 hkA Ya hpA hA Jb q0 q1 hc0 hc1 hb0;gi_wp2;refine⟨rfl,?_⟩;rw[<-Qm.out];refine RoundIn.mono HR.out ?_;rintro e W3 ⟨rfl,S',hJ3,hk3,Yc⟩;have hqA:W.heap.size<wr.heap.size:=lt_of_block pR.out;have afq:=hk3.size;have hp3:W3.heap[w1.heap.size]? = some (.cells #[.int .i64 (y:Int),.int .i64 (L2:Int),.int .i64 (W2:Int)] 237 (0,0)):=(hk3.block _ (by omega) Yb).trans DI.out;have hit3:CV W3 Bn lb lo m c V W.heap.size (j+1):=SX.out.kept hk3 (fun h=>(Ql.out _ h).1 (by simp)) (fun h=>(Ql.out _ h).1 (by simp)) (fun h=>(Ql.out _ h).1 (by simp)) UY;have Br:W3.heap[W.heap.size]? = some (.cells #[.int .i64 (L:Int),.int .i64 (Wd:Int)] 235 (0,0)):=by
    have h1:=SX.out.win;have h2:A.heap[W.heap.size]? = some (.cells #[.int .i64 (L:Int),.int .i64 (Wd:Int)] 235 (0,0)):=by
     rw[h1,<-HIT.out.win];exact pR.out
    exact (hk3.block _ (by omega) UY).trans h2
   have p1:W3.cell? ⟨w1.heap.size,1,none⟩=some (.int .i64 (L2:Int)):=ak hp3 1;have p2:W3.cell? ⟨w1.heap.size,2,none⟩=some (.int .i64 (W2:Int)):=ak hp3 2;have z0:W3.cell? ⟨W.heap.size,0,none⟩=some (.int .i64 (L:Int)):=ak Br 0;have z1:W3.cell? ⟨W.heap.size,1,none⟩=some (.int .i64 (Wd:Int)):=ak Br 1;have y0:W3.frozen? ⟨W.heap.size,0,none⟩=false:=aA Br 0;have y1:W3.frozen? ⟨W.heap.size,1,none⟩=false:=aA Br 1;have acC:W.heap.size∉S':=fun h=>by rcases Yc _ h with h | h;exact UY h;omega
   obtain⟨B,hB⟩:∃ B,B=(W3.setCell ⟨W.heap.size,0,none⟩ (.int .i64 (L2:Int))).setCell ⟨W.heap.size,1,none⟩ (.int .i64 (W2:Int)):=⟨_,rfl⟩;have hkB:Kept [W.heap.size] W3 B:=by rw[hB];exact ((Kept.refl _ _).setCell (.inl (by simp)) _).setCell (.inl (by simp)) _
   have hJB:=HJk.out _ S' W3 B hJ3 hkB acC;have Yd:CV B Bn lb lo m c V W.heap.size (j+1+1):=by
    refine⟨hkB.cell hit3.box (by simp;omega),fun i hi=>hkB.cell (hit3.vals i hi) (by simp;omega),fun i hi=>hkB.cell (hit3.tab i hi) (by simp;omega),?_⟩;rw[hB,heap_set (heap_set Br 0 _) 1 _,HL2.out,HW2.out];rfl
   have hSB:∀ b,b∈S'->b ∉ [Bn,lb,17]/\b≠W.heap.size:=by
    intro b hb;rcases Yc b hb with h | h
    ·exact Ql.out b h
    ·refine⟨?_,by omega⟩;simp
     omega
   have J4:=(show Hid _ from hB);have HJB:=(show Hid _ from hJB);have acD:=(show Hid _ from Yd);have AB:=(show Hid _ from hSB);clear hp3 hit3 Br hJ3 hk3 Yc hkB hJB Yd hSB hB DI HR SX pR HIT HJ X8 hy bJ;gi_wp2;go_roundw;case rel=>rw[<-J4.out];exact⟨j+1+1,S',by omega,by omega,by go_num,HJB.out,AB.out,acD.out⟩
   case measure=>simp[intOf];omega
  ·have:k=m:=by omega
   subst this;have HJ:=(show Hid _ from hJ);clear hJ hit X7;gi_wp2;go_end0;exact⟨⟨_,rfl⟩,S,HJ.out⟩
end Go.Proofs.YtcemkhalbjhdkaaGreatDoor
