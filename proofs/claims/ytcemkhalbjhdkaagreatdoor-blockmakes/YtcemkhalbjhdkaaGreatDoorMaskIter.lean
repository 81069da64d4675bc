import Derived.Test.YtcemkhalbjhdkaaGreatDoorMaskWinGroup
import Derived.Test.YtcemkhalbjhdkaaGreatDoorSlicesIn
import Derived.Test.YtcemkhalbjhdkaaGreatDoorPutGroup
import Derived.OwnWalkIn
import Derived.TacticsInMore
import Derived.LoopNIn
import Derived.LoopIn
import Derived.RangeFuncNested
import Derived.RangeFuncBound
import Derived.RangeFuncCalls
import Derived.RangeFuncLeaves
import Derived.Shelf.Abstract
import Derived.Test.YtcemkhalbjhdkaaGreatDoorRows1Group
namespace Go.Proofs.YtcemkhalbjhdkaaGreatDoor
open Go.RowKit
variable {P:Program}
def roundEnd (R:World->Prop):Exit->Act->World->Prop
 | .normal,_,W=>R W
 | _,_,_=>False
def Rounds (P:Program) (gf:Nat) (lb:Array Value) (encs:Nat->Array Value) (m:Nat) (Pr:List Nat) (w:World):Prop:=
 ∀ (l:Nat) (J:Nat->List Nat->World->Prop) (S0:List Nat) (W:World),Below w.heap.size w W ->
  (∀ k S A,J k S A->∀ b,b∈S->b<A.heap.size) ->
  (∀ k S A B,J k S A->Kept [W.heap.size] A B->W.heap.size∉S->J k S B) ->
  (∀ k S A,1<=k->k<m->J k S A->YieldAt Fence.wide 0 P l (encs k) A fun e A'=>e = .returned (.bool true)/\∃ S',J (k+1) S' A'/\Kept S A A'/\∀ b,b∈S'->b∈S\/A.heap.size<=b) ->
  J 1 S0 W->(∀ b,b∈S0->b∉Pr) ->
  CallsIn Fence.wide 0 P gf (#[.func (.yield l) #[] #[]]++lb) W fun e W'=>(∃ v,e = .returned v)/\∃ S',J m S' W'
theorem Kept.put {S:List Nat} {A W:World} (h:Kept S A W) (l:Nat) (o:Obj) (hl:l∈S\/A.heap.size<=l):Kept S A (W.putObj l o):=
 h.trans (T:=[l]) ⟨rfl,rfl,rfl,by simp,fun k _ hm=>World.putObj_heap_other (by simpa using hm)⟩ (fun x hx=>by simp at hx;subst hx;exact hl)
theorem Bu {g:Operand} {ps:Array Tmp} {assign body:Code} {Q:Exit->Act->World->Prop} {a:Act} {w:World} {gf:Nat} {lb:Array Value}
  (hg:a.eval g = .func (.func gf) #[] lb) (eg:∀ args w,(callFunc gf args).run P w = .ok (.enter gf args) w)
  (m:Nat) (encs:Nat->Array Value) (hps:∀ k,(encs k).size=ps.size) (Pr:List Nat) (hPr:∀ b,b∈Pr->b<w.heap.size) (hseq:Rounds P gf lb encs m Pr w)
  (I:Nat->List Nat->World->Prop) (hlt:∀ k S A,I k S A->∀ b,b∈S->b<A.heap.size)
  (hI:∀ k S T A B,I k S A->Kept T A B->(∀ b,b∈T->b∉S/\w.heap.size<=b)->I k S B)
  (S0:List Nat) (h0:I 1 S0 w) (hS0:∀ b,b∈S0->b∉Pr) (Fm:Nat->Obj) (a₁:Nat->Nat->Act)
  (hassign:∀ (l k:Nat) (W:World) (K:Act->World->Prop),K (a₁ k W.heap.size) (W.alloc (Fm k)) ->
   assign.wpIn (Fence.wide.inRound l) 0 P (Exit.then K (fun _ _ _=>False)) { tmps:=(ps.zip (encs k)).foldl (fun t (p,v)=>t.setIfInBounds p v) a.tmps,defers:=[] } W)
  (hbody:∀ (l k:Nat) (S:List Nat) (W:World) (p:Nat),1<=k->k<m->I k S W->W.heap[p]? = some (Fm k)->p∉S ->
   body.wpIn (Fence.wide.inRound l) 0 P (roundEnd fun W'=>∃ S',I (k+1) S' W'/\Kept S W W'/\∀ b,b∈S'->b∈S\/W.heap.size<=b) (a₁ k p) W)
  (hdone:∀ (D:Nat) (S:List Nat) (W:World),w.heap.size<=D->I m S W->D∉S->W.heap[D]? = some (.deferred (some []))->Q .normal { a with defers:={ target:=.collected D,args:=#[] }::a.defers } W) :
  (Code.rangeFunc g ps assign body).wp P Q a w:=by
 refine (wpIn_wide (n:=0)).1 (wpIn_rangeFunc ?_);intro fn hfn;obtain⟨rec,hrec⟩:∃ rec:LoopState->Loop,rec=fun st=>{ state:=st,pending:=none,fn,tmps:=a.tmps,params:=ps,assign,body,defers:=w.heap.size }:=⟨_,rfl⟩
 obtain⟨W1,hW1⟩:∃ W1,W1=(w.alloc (.deferred (some []))).alloc (.loop (rec .ready)):=⟨_,rfl⟩;have hs1:W1.heap.size=w.heap.size+2:=by rw[hW1];simp
 have hL1:W1.heap[w.heap.size+1]? = some (.loop (rec .ready)):=by
  rw[hW1];have:=World.alloc_heap_new (w.alloc (.deferred (some []))) (.loop (rec .ready));rwa [World.size_alloc] at this
 have hD1:W1.heap[w.heap.size]? = some (.deferred (some [])):=by
  rw[hW1];exact (Below.heap_alloc _ _ _ (by simp)).trans (World.alloc_heap_new w _)
 have hk1:Kept [] w W1:=by rw[hW1];exact ((Kept.refl _ _).alloc _).alloc _
 have hb1:Below w.heap.size w W1:=by rw[hW1];exact ((Below.refl _ w).alloc (Nat.le_refl _) _).alloc (by simp) _
 refine⟨w.heap.size+1,[{ target:=.collected w.heap.size,args:=#[] }],W1,{ target:=.fn (.func gf) lb,args:=#[.func (.yield (w.heap.size+1)) #[] #[]] },W1,gf,
  #[.func (.yield (w.heap.size+1)) #[] #[]]++lb,W1,?_,?_,?_,?_,fun h=>by simp[Fence.wide] at h,?_⟩
 ·rw[hW1,hrec];exact run_enterLoop_outer _ _ _ _ _
 ·simp only[resolve,hg];simp[go_sem]
 ·intro f' _;trivial
 ·simp[invoke,go_sem,eg]
 ·refine CallsIn.mono (hseq (w.heap.size+1) (fun k S' W=>∃ S,S'=(w.heap.size+1)::S/\I k S W/\W.heap[w.heap.size+1]? = some (.loop (rec .ready))/\W.heap[w.heap.size]? = some (.deferred (some []))/\w.heap.size+1∉S/\w.heap.size∉S)
   ((w.heap.size+1)::S0) W1 hb1 ?_ ?_ ?_ ?_ ?_) ?_
  ·rintro k S' A ⟨S,rfl,hi,hl,hd,hnl,hnd⟩ b hb;rcases List.mem_cons.1 hb with rfl | hb
   ·exact (Array.getElem?_eq_some_iff.1 hl).1
   ·exact hlt k S A hi b hb
  ·rintro k S' A B ⟨S,rfl,hi,hl,hd,hnl,hnd⟩ hk hq;rw[hs1] at hk hq;have hal:=(Array.getElem?_eq_some_iff.1 hl).1;refine⟨S,rfl,hI k S _ A B hi hk (fun b hb=>?_),(hk.block _ hal (by simp)).trans hl,(hk.block _ (by omega) (by simp)).trans hd,hnl,hnd⟩;simp at hb;subst hb;exact⟨fun h=>hq (List.mem_cons_of_mem _ h),by omega⟩
  ·rintro k S' A KC hkm ⟨S,rfl,hi,hl,hd,hnl,hnd⟩;have hal:=(Array.getElem?_eq_some_iff.1 hl).1;have hy:=run_yield (P:=P) (args:=encs k) hl (by rw[hrec];exact hps k);rw[hrec] at hy;refine⟨fn,_,assign,body,hy,roundIn_of_wpIn hfn (hassign _ k A _ ?_)⟩;clear hy;have hl2:(A.alloc (Fm k)).heap[w.heap.size+1]? = some (.loop (rec .ready)):=(Below.heap_alloc _ _ _ hal).trans hl;refine⟨_,run_beginRound hl2 (by rw[hrec]),?_⟩;obtain⟨Ab,tZ⟩:∃ Ab,Ab=(A.alloc (Fm k)).putObj (w.heap.size+1) (.loop { rec .ready with state:=.busy }):=⟨_,rfl⟩;rw[<-tZ];have hkb:Kept [w.heap.size+1] A Ab:=by rw[tZ];exact ((Kept.refl _ _).alloc _).put _ _ (.inl (by simp))
   have hsb:Ab.heap.size=A.heap.size+1:=by rw[tZ];simp
   have hlb:Ab.heap[w.heap.size+1]? = some (.loop { rec .ready with state:=.busy }):=by rw[tZ];exact World.putObj_heap_same (by simp;omega)
   have hib:I k S Ab:=hI k S _ A Ab hi hkb (fun b hb=>by simp at hb;subst hb;exact⟨hnl,by omega⟩);have hpb:Ab.heap[A.heap.size]? = some (Fm k):=by rw[tZ,World.putObj_heap_other (by omega)];exact World.alloc_heap_new _ _
   refine wpIn_mono (hbody _ k S Ab A.heap.size KC hkm hib hpb (fun h=>by have:=hlt k S A hi _ h;omega)) ?_;rintro e a3 W3 hp;cases e with
   | normal=>
    obtain⟨S3,hi3,hk3,YP⟩:=hp;have hl3:=(hk3.block _ (by omega) hnl).trans hlb;have hs3:=hk3.size;have YQ:w.heap.size+1∉S3:=fun h=>by rcases YP _ h with h | h;exact hnl h;omega
    have adN:w.heap.size∉S3:=fun h=>by rcases YP _ h with h | h;exact hnd h;omega
    refine⟨_,_,run_endRound (P:=P) none hl3,rfl,(w.heap.size+1)::S3,⟨S3,rfl,?_,?_,?_,YQ,adN⟩,?_,?_⟩
    ·exact hI (k+1) S3 [w.heap.size+1] W3 _ hi3 ((Kept.refl _ _).put _ _ (.inl (by simp))) (fun b hb=>by simp at hb;subst hb;exact⟨YQ,by omega⟩)
    ·rw[World.putObj_heap_same (by omega),hrec];rfl
    ·rw[World.putObj_heap_other (by omega),hk3.block _ (by omega) hnd,hkb.block _ (by omega) (by simp)];exact hd
    ·have h1:Kept ((w.heap.size+1)::S) A Ab:=⟨hkb.os,hkb.tape,hkb.output,hkb.size,fun b hb hm=>hkb.block b hb (fun h=>hm (by simp at h;subst h;simp))⟩;exact (h1.trans hk3 (fun x hx=>.inl (List.mem_cons_of_mem _ hx))).put _ _ (.inl (by simp))
    ·intro b hb;rcases List.mem_cons.1 hb with rfl | hb
     ·exact .inl (by simp)
     ·rcases YP b hb with h | h
      ·exact .inl (List.mem_cons_of_mem _ h)
      ·exact .inr (by omega)
   | ret=>exact hp.elim
   | exit id=>exact hp.elim
   | goto t=>exact hp.elim
   | panic ch=>exact hp.elim
   | outgrown=>exact hp.elim
  ·refine⟨S0,rfl,hI 1 S0 [] w W1 h0 hk1 (fun b hb=>by cases hb),hL1,hD1,?_,?_⟩
   ·intro h;have:=hlt 1 S0 w h0 _ h;omega
   ·intro h;have:=hlt 1 S0 w h0 _ h;omega
  ·intro b hb hp;rcases List.mem_cons.1 hb with rfl | hb
   ·have:=hPr _ hp;omega
   ·exact hS0 b hb hp
  ·rintro e W2 ⟨⟨v,rfl⟩,S',S,rfl,hi,hl,hd,hnl,hnd⟩;have hal:=(Array.getElem?_eq_some_iff.1 hl).1;refine⟨none,_,by have:=run_endLoop (P:=P) hl (by rw[hrec];simp);rw[hrec] at this;exact this,hdone _ S _ (Nat.le_refl _) ?_ hnd ((World.putObj_heap_other (by omega)).trans hd)⟩;exact hI m S [w.heap.size+1] W2 _ hi ((Kept.refl _ _).put _ _ (.inl (by simp))) (fun b hb=>by simp at hb;subst hb;exact⟨hnl,by omega⟩)
end Go.Proofs.YtcemkhalbjhdkaaGreatDoor
set_option maxRecDepth 100000
set_option maxHeartbeats 2000000
namespace Go.Proofs.YtcemkhalbjhdkaaGreatDoor
open Go.RowKit Go.Shelf
attribute [local go_sem] Oper.semAt_some
theorem Df (la:Option Addr) (m c:Nat) (w:World) :
  Calls Tryz.prog 164 #[.slice la m c] w fun e w'=>e = .returned (.func (.func 199) #[] #[.pointer (some ⟨w.heap.size,0,none⟩)])/\w'=w.alloc (.cells #[.slice la m c] 138):=by
 go_enter Tryz.func164,Tryz.ntmps164;go_wp2;go_ret;exact⟨rfl,rfl⟩
def mo (V:Nat->Nat) (k:Nat):Nat:=V k ^^^ V (k-1)
def nD (V:Nat->Nat) (k:Nat):Value:=dF (aj.dQ (aj.aK V k) (mo V k)) (aj.aK V (k+1)).2.1 (aj.aX (aj.aK V (k+1)))
def sO (V:Nat->Nat) (k:Nat):Array Value:=#[nD V k,.int .u64 (mo V k:Int)]
structure DX (wr:World) (Bn lb lo m c:Nat) (V:Nat->Nat) (q k:Nat):Prop where
 box:wr.cell? ⟨Bn,0,none⟩=some (.slice (some ⟨lb,lo,none⟩) m c)
 vals:∀ i,i<m->wr.cell? ⟨lb,lo+i,none⟩=some (.int .u64 (V i:Int))
 tab:Tab wr
 win:wr.heap[q]? = some (.cells #[.int .i64 ((aj.aK V k).2.1:Int),.int .i64 ((aj.aX (aj.aK V k):Nat):Int)] 235 (0,0))
theorem DX.kept {wr wr':World} {Bn lb lo m c:Nat} {V:Nat->Nat} {q k:Nat} (h:DX wr Bn lb lo m c V q k) {S:List Nat} (hk:Kept S wr wr') (h1:Bn∉S) (h2:lb∉S) (h3:17∉S) (h4:q∉S):DX wr' Bn lb lo m c V q k:=
 ⟨hk.cell h.box h1,fun i hi=>hk.cell (h.vals i hi) h2,fun j hj=>hk.cell (h.tab j hj) h3,(hk.block q (lt_of_block h.win) h4).trans h.win⟩
theorem qw (V:Nat->Nat) (n:Nat) (hV:∀ i,i<n->V i<18446744073709551616):∀ k,k<=n->aj.qc (aj.aK V k)
 | 0,_=>by simp[aj.aK,aj.qc]
 | k+1,h=>by
  by_cases hk:k=0
  ·subst hk;rw[aj.kI];simp[aj.qc]
  ·rw[aj.kC V k hk];exact aj.OW (qw V n hV k (by omega)) _ (aj.qM _ _ (hV k (by omega)) (hV (k-1) (by omega)))
theorem xQ (Bn lb lo m c:Nat) (V:Nat->Nat) (w:World) (hm1:1<=m) (hm:m<=1000) (hV:∀ i,i<m->V i<18446744073709551616)
  (DC:w.cell? ⟨Bn,0,none⟩=some (.slice (some ⟨lb,lo,none⟩) m c)) (qd:∀ i,i<m->w.cell? ⟨lb,lo+i,none⟩=some (.int .u64 (V i:Int))) (hT:Tab w) :
  Rounds Tryz.prog 199 #[.pointer (some ⟨Bn,0,none⟩)] (sO V) m [Bn,lb,17] w:=by
 intro l J S0 W hbW Uj Y4 Qy hJ0 hS0;have X6:=lt_of_cell DC;have hlb:=lt_of_cell (qd 0 hm1);have Dg:=hbW.size;have Om:W.cell? ⟨Bn,0,none⟩=some (.slice (some ⟨lb,lo,none⟩) m c):=(hbW.cell (p:=⟨Bn,0,none⟩) X6).trans DC;have Ri:∀ i,i<m->W.cell? ⟨lb,lo+i,none⟩=some (.int .u64 (V i:Int)):=fun i hi=>(hbW.cell (p:=⟨lb,lo+i,none⟩) hlb).trans (qd i hi)
 have hTW:Tab W:=hT.below hbW hT.lt;have hG:=hT.lt;obtain⟨wa,bJ⟩:∃ wa,wa=W.alloc (.cells #[.int .i64 0,.int .i64 0] 235):=⟨_,rfl⟩;have hka:Kept [W.heap.size] W wa:=by rw[bJ];exact (Kept.refl _ _).alloc _
 have hsa:wa.heap.size=W.heap.size+1:=by rw[bJ];simp
 have Y5:W.heap.size∉S0:=fun h=>by have:=Uj 1 S0 W hJ0 _ h;omega
 have hIt:DX wa Bn lb lo m c V W.heap.size 1:=by
  refine⟨hka.cell Om (by simp;omega),fun i hi=>hka.cell (Ri i hi) (by simp;omega),fun j hj=>hka.cell (hTW j hj) (by simp;omega),?_⟩;rw[bJ,aj.kI];exact heap_alloc_new _ _
 have HIT:=(show Hid _ from hIt);have HJA:=(show Hid _ from Y4 1 S0 W wa hJ0 hka Y5);have adQ:=(show Hid _ from Uj);have HJk:=(show Hid _ from Y4);have X7:=(show Hid _ from Qy);have kJ:Hid (∀ wx,wx=W.alloc (.cells #[.int .i64 0,.int .i64 0] 235)->wx=wa):=fun wx h=>h.trans bJ.symm
 have Rj:Hid (∀ b,b∈S0->b ∉ [Bn,lb,17]/\b≠W.heap.size):=fun b hb=>⟨hS0 b hb,fun e=>Y5 (e ▸ hb)⟩
 have HV:=(show Hid _ from hV);clear hJ0 Uj Y4 Qy bJ hka hIt Ri qd hT hTW hS0 hV DC Om;refine callsIn_of_wp Tryz.func199 rfl trivial ?_ rfl;simp only[Tryz.ntmps199,List.size_toArray,List.length_cons,List.length_nil,Nat.reduceAdd,Nat.reduceSub,Array.replicate_succ,Array.replicate_zero,List.push_toArray,List.append_toArray,List.nil_append,List.cons_append];gi_wp2;rw[kJ.out _ rfl];gi_loopw [4,5,6] (fun i _ _ wr=>∃ (k:Nat) (S:List Nat),1<=k/\k<=m/\i = .int .i64 k/\J k S wr/\(∀ b,b∈S->b ∉ [Bn,lb,17]/\b≠W.heap.size)/\DX wr Bn lb lo m c V W.heap.size k) (fun i _ _ _=>m-(intOf i).toNat);case atStart=>exact⟨1,S0,Nat.le_refl _,hm1,rfl,HJA.out,Rj.out,HIT.out⟩
 case round=>
  obtain⟨k,S,hk1,hkm,rfl,hJ,Y6,hit⟩:=hrel;clear HIT HJA;have hb0:=hit.box;by_cases hlt:k<m
  ·obtain⟨j,rfl⟩:∃ j,k=j+1:=⟨k-1,by omega⟩;have hc1:wr.cell? ⟨lb,lo+(j+1),none⟩=some (.int .u64 (V (j+1):Int)):=hit.vals (j+1) hlt;have hc0:wr.cell? ⟨lb,lo+j,none⟩=some (.int .u64 (V j:Int)):=hit.vals j (by omega);have hv1:=HV.out (j+1) hlt;have hv0:=HV.out j (by omega);have zy:=u64_xor_nat (V (j+1)) (V j) hv1 hv0;have hxl:=aj.qM (V (j+1)) (V j) hv1 hv0;have hxe:mo V (j+1)=V (j+1) ^^^ V j:=rfl;have hwo:=qw V m HV.out (j+1) (by omega);have hst:=aj.kC V (j+1) (by omega);obtain⟨x,hx⟩:∃ x,x=V (j+1) ^^^ V j:=⟨_,rfl⟩;have hst':aj.aK V (j+1+1)=aj.bR (aj.aK V (j+1)) x:=by rw[hst,hx];rfl
   rw[<-hx] at zy hxl hxe;have hfo:=fun w0 hT0=>Db (aj.aK V (j+1)) x w0 hwo hxl hT0
   rw[<-hst'] at hfo;obtain⟨L,hL⟩:∃ L,L=(aj.aK V (j+1)).2.1:=⟨_,rfl⟩;obtain⟨Wd,hWd⟩:∃ Wd,Wd=aj.aX (aj.aK V (j+1)):=⟨_,rfl⟩;have hwin:=hit.win;rw[<-hL,<-hWd] at hfo hwin;unfold jv dF at hfo;have q0:wr.cell? ⟨W.heap.size,0,none⟩=some (.int .i64 (L:Int)):=ak hwin 0;have q1:wr.cell? ⟨W.heap.size,1,none⟩=some (.int .i64 (Wd:Int)):=ak hwin 1;have hargs:sO V (j+1)=#[.agg #[.int .i64 ((aj.dQ (aj.aK V (j+1)) x:Nat):Int),.int .i64 ((aj.aK V (j+1+1)).2.1:Int),.int .i64 ((aj.aX (aj.aK V (j+1+1)):Nat):Int)],.int .u64 (x:Int)]:=by
    unfold sO nD dF;rw[hxe]
   obtain⟨y,hy0⟩:∃ y,y=aj.dQ (aj.aK V (j+1)) x:=⟨_,rfl⟩;obtain⟨L2,hL2⟩:∃ L2,L2=(aj.aK V (j+1+1)).2.1:=⟨_,rfl⟩;obtain⟨W2,hW2⟩:∃ W2,W2=aj.aX (aj.aK V (j+1+1)):=⟨_,rfl⟩;rw[<-hy0,<-hL2,<-hW2] at hfo hargs;have HL2:=(show Hid _ from hL2);have HW2:=(show Hid _ from hW2);generalize hV1:V (j+1)=V1 at *;generalize hV0:V j=V0 at *;have bN:=(show Hid _ from hfo);have HIT:=(show Hid _ from hit);have HJ:=(show Hid _ from hJ);have Rk:=(show Hid _ from Y6);have Y7:=(show Hid _ from hargs);have qo:=(show Hid _ from hwin);have hjI:(j:Int)+1<(m:Int):=by omega
   clear hfo hit hJ Y6 hxe hwin hst hst' hwo hv1 hv0 hx hL hWd hV1 hV0 hxl hy0 hL2 hW2 hargs;gi_wp2;refine wpIn_wide.2 ?_;go_quiet (fail);gi_wp2_with fail;refine⟨trivial,rfl,?_⟩;refine CallsIn.mono (callsIn_wide.2 (bN.out _ (fun i hi=>HIT.out.tab i hi))) ?_;rintro e w1 ⟨rfl,hb1⟩;have hs1:wr.heap.size<=w1.heap.size:=hb1.size;have Y8:Kept [W.heap.size] wr w1:=⟨hb1.os,hb1.tape,hb1.output,hb1.size,fun b hb _=>hb1.block b hb⟩;obtain⟨A,hA⟩:∃ A,A=w1.alloc (.cells #[.int .i64 (y:Int),.int .i64 (L2:Int),.int .i64 (W2:Int)] 237):=⟨_,rfl⟩;have hkA:Kept [W.heap.size] wr A:=by rw[hA];exact Y8.alloc _
   have Y9:Kept [] wr A:=by rw[hA];exact (Kept.of_below (S:=[]) (⟨hb1.os,hb1.tape,hb1.output,hb1.size,hb1.block⟩:Below wr.heap.size wr w1)).alloc _
   have VU:W.heap.size∉S:=fun h=>(Rk.out _ h).2 rfl
   have JO:=HJk.out _ S wr A HJ.out hkA VU;have hpA:A.heap[w1.heap.size]? = some (.cells #[.int .i64 (y:Int),.int .i64 (L2:Int),.int .i64 (W2:Int)] 237 (0,0)):=by rw[hA];exact heap_alloc_new _ _
   have hsA:A.heap.size=w1.heap.size+1:=by rw[hA];simp
   have Za:w1.heap.size∉S:=fun h=>by have:=adQ.out _ S wr HJ.out _ h;omega
   obtain⟨fn,tmps,assign,body,hy,hR⟩:=X7.out (j+1) S A hk1 hlt JO;rw[Y7.out] at hy;rw[hA] at hy;have Uk:=(show Hid _ from HIT.out.kept Y9 (by simp) (by simp) (by simp) (by simp));have HR:=(show Hid _ from hR);have Ez:=(show Hid _ from hpA);have HHA:=(show Hid _ from hA);clear hR hb1 Y8 hkA Y9 hpA hA JO q0 q1 hc0 hc1 hb0;gi_wp2;refine⟨rfl,?_⟩;rw[<-HHA.out];refine RoundIn.mono HR.out ?_;rintro e W3 ⟨rfl,S',hJ3,hk3,Zb⟩;have hqA:W.heap.size<wr.heap.size:=lt_of_block qo.out;have ag1:=hk3.size;have hp3:W3.heap[w1.heap.size]? = some (.cells #[.int .i64 (y:Int),.int .i64 (L2:Int),.int .i64 (W2:Int)] 237 (0,0)):=(hk3.block _ (by omega) Za).trans Ez.out;have hit3:DX W3 Bn lb lo m c V W.heap.size (j+1):=Uk.out.kept hk3 (fun h=>(Rk.out _ h).1 (by simp)) (fun h=>(Rk.out _ h).1 (by simp)) (fun h=>(Rk.out _ h).1 (by simp)) VU;have Ct:W3.heap[W.heap.size]? = some (.cells #[.int .i64 (L:Int),.int .i64 (Wd:Int)] 235 (0,0)):=by
    have h1:=Uk.out.win;have h2:A.heap[W.heap.size]? = some (.cells #[.int .i64 (L:Int),.int .i64 (Wd:Int)] 235 (0,0)):=by
     rw[h1,<-HIT.out.win];exact qo.out
    exact (hk3.block _ (by omega) VU).trans h2
   have p1:W3.cell? ⟨w1.heap.size,1,none⟩=some (.int .i64 (L2:Int)):=ak hp3 1;have p2:W3.cell? ⟨w1.heap.size,2,none⟩=some (.int .i64 (W2:Int)):=ak hp3 2;have z0:W3.cell? ⟨W.heap.size,0,none⟩=some (.int .i64 (L:Int)):=ak Ct 0;have z1:W3.cell? ⟨W.heap.size,1,none⟩=some (.int .i64 (Wd:Int)):=ak Ct 1;have y0:W3.frozen? ⟨W.heap.size,0,none⟩=false:=aA Ct 0;have y1:W3.frozen? ⟨W.heap.size,1,none⟩=false:=aA Ct 1;have adR:W.heap.size∉S':=fun h=>by rcases Zb _ h with h | h;exact VU h;omega
   obtain⟨B,hB⟩:∃ B,B=(W3.setCell ⟨W.heap.size,0,none⟩ (.int .i64 (L2:Int))).setCell ⟨W.heap.size,1,none⟩ (.int .i64 (W2:Int)):=⟨_,rfl⟩;have hkB:Kept [W.heap.size] W3 B:=by rw[hB];exact ((Kept.refl _ _).setCell (.inl (by simp)) _).setCell (.inl (by simp)) _
   have hJB:=HJk.out _ S' W3 B hJ3 hkB adR;have Zc:DX B Bn lb lo m c V W.heap.size (j+1+1):=by
    refine⟨hkB.cell hit3.box (by simp;omega),fun i hi=>hkB.cell (hit3.vals i hi) (by simp;omega),fun i hi=>hkB.cell (hit3.tab i hi) (by simp;omega),?_⟩;rw[hB,heap_set (heap_set Ct 0 _) 1 _,HL2.out,HW2.out];rfl
   have hSB:∀ b,b∈S'->b ∉ [Bn,lb,17]/\b≠W.heap.size:=by
    intro b hb;rcases Zb b hb with h | h
    ·exact Rk.out b h
    ·refine⟨?_,by omega⟩;simp
     omega
   have HHB:=(show Hid _ from hB);have HJB:=(show Hid _ from hJB);have adS:=(show Hid _ from Zc);have qH:=(show Hid _ from hSB);clear hp3 hit3 Ct hJ3 hk3 Zb hkB hJB Zc hSB hB Ez HR Uk qo HIT HJ Y7 hy bN;gi_wp2;go_roundw;case rel=>rw[<-HHB.out];exact⟨j+1+1,S',by omega,by omega,by go_num,HJB.out,qH.out,adS.out⟩
   case measure=>simp[intOf];omega
  ·have:k=m:=by omega
   subst this;have HJ:=(show Hid _ from hJ);clear hJ hit Y6;gi_wp2;go_end0;exact⟨⟨_,rfl⟩,S,HJ.out⟩
end Go.Proofs.YtcemkhalbjhdkaaGreatDoor
