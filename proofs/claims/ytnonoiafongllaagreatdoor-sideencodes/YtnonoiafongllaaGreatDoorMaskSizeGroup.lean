import Derived.Shelf.RegionOpen
import Derived.Deep.RegionHeld3
import Derived.Deep.QuietTactic
import Derived.BigQuiet
import Derived.Test.YtnonoiafongllaaGreatDoorRefReadGroup
import Derived.Test.YtnonoiafongllaaGreatDoorRefTicksGroup
import Derived.Test.YtnonoiafongllaaGreatDoorPutGroup
import Derived.Test.YtnonoiafongllaaGreatDoorMaskWinGroup
import Derived.Test.YtnonoiafongllaaGreatDoorSlicesIn
import Derived.OwnWalkIn
import Derived.TacticsInMore
import Derived.LoopNIn
import Derived.LoopIn
import Derived.RangeFuncNested
import Derived.RangeFuncBound
import Derived.RangeFuncCalls
import Derived.RangeFuncLeaves
import Derived.Shelf.Abstract
import Derived.Test.YtnonoiafongllaaGreatDoorRows1Group
namespace Go.Proofs.YtnonoiafongllaaGreatDoor
open Go.RowKit
variable {P:Program}
def roundEnd (R:World->Prop):Exit->Act->World->Prop
 | .normal,_,W=>R W
 | _,_,_=>False
def Rounds (P:Program) (gf:Nat) (lb:Array Value) (encs:Nat->Array Value) (m:Nat) (Pr:List Nat) (w:World):Prop:=
 ∀ (l:Nat) (J:Nat->List Nat->World->Prop) (S0:List Nat) (W:World),Below w.heap.size w W ->
  (∀ k S A,J k S A->∀ b,b∈S->b<A.heap.size) ->
  (∀ k S A B,J k S A->Kept [W.heap.size] A B->W.heap.size∉S->J k S B) ->
  (∀ k S A,1<=k->k<m->J k S A->YieldAt Fence.wide 0 P l (encs k) A fun e A'=>e = .returned (.bool true)/\∃ S',J (k+1) S' A'/\Kept S A A'/\∀ b,b∈S'->b∈S\/A.heap.size<=b) ->
  J 1 S0 W->(∀ b,b∈S0->b∉Pr) ->
  CallsIn Fence.wide 0 P gf (#[.func (.yield l) #[] #[]]++lb) W fun e W'=>(∃ v,e = .returned v)/\∃ S',J m S' W'
theorem Kept.put {S:List Nat} {A W:World} (h:Kept S A W) (l:Nat) (o:Obj) (hl:l∈S\/A.heap.size<=l):Kept S A (W.putObj l o):=
 h.trans (T:=[l]) ⟨rfl,rfl,rfl,by simp,fun k _ hm=>World.putObj_heap_other (by simpa using hm)⟩ (fun x hx=>by simp at hx;subst hx;exact hl)
theorem uY {g:Operand} {ps:Array Tmp} {assign body:Code} {Q:Exit->Act->World->Prop} {a:Act} {w:World} {gf:Nat} {lb:Array Value}
  (hg:a.eval g = .func (.func gf) #[] lb) (eg:∀ args w,(callFunc gf args).run P w = .ok (.enter gf args) w)
  (m:Nat) (encs:Nat->Array Value) (hps:∀ k,(encs k).size=ps.size) (Pr:List Nat) (O3:∀ b,b∈Pr->b<w.heap.size) (hseq:Rounds P gf lb encs m Pr w)
  (I:Nat->List Nat->World->Prop) (hlt:∀ k S A,I k S A->∀ b,b∈S->b<A.heap.size)
  (hI:∀ k S T A B,I k S A->Kept T A B->(∀ b,b∈T->b∉S/\w.heap.size<=b)->I k S B)
  (S0:List Nat) (h0:I 1 S0 w) (hS0:∀ b,b∈S0->b∉Pr) (Fm:Nat->Obj) (a₁:Nat->Nat->Act)
  (hassign:∀ (l k:Nat) (W:World) (K:Act->World->Prop),K (a₁ k W.heap.size) (W.alloc (Fm k)) ->
   assign.wpIn (Fence.wide.inRound l) 0 P (Exit.then K (fun _ _ _=>False)) { tmps:=(ps.zip (encs k)).foldl (fun t (p,v)=>t.setIfInBounds p v) a.tmps,defers:=[] } W)
  (hbody:∀ (l k:Nat) (S:List Nat) (W:World) (p:Nat),1<=k->k<m->I k S W->W.heap[p]? = some (Fm k)->p∉S ->
   body.wpIn (Fence.wide.inRound l) 0 P (roundEnd fun W'=>∃ S',I (k+1) S' W'/\Kept S W W'/\∀ b,b∈S'->b∈S\/W.heap.size<=b) (a₁ k p) W)
  (hdone:∀ (D:Nat) (S:List Nat) (W:World),w.heap.size<=D->I m S W->D∉S->W.heap[D]? = some (.deferred (some []))->Q .normal { a with defers:={ target:=.collected D,args:=#[] }::a.defers } W) :
  (Code.rangeFunc g ps assign body).wp P Q a w:=by
 refine (wpIn_wide (n:=0)).1 (wpIn_rangeFunc ?_);intro fn hfn;obtain⟨rec,hrec⟩:∃ rec:LoopState->Loop,rec=fun st=>{ state:=st,pending:=none,fn,tmps:=a.tmps,params:=ps,assign,body,defers:=w.heap.size }:=⟨_,rfl⟩
 obtain⟨W1,hW1⟩:∃ W1,W1=(w.alloc (.deferred (some []))).alloc (.loop (rec .ready)):=⟨_,rfl⟩;have hs1:W1.heap.size=w.heap.size+2:=by rw[hW1];simp
 have hL1:W1.heap[w.heap.size+1]? = some (.loop (rec .ready)):=by
  rw[hW1];have:=World.alloc_heap_new (w.alloc (.deferred (some []))) (.loop (rec .ready));rwa [World.size_alloc] at this
 have hD1:W1.heap[w.heap.size]? = some (.deferred (some [])):=by
  rw[hW1];exact (Below.heap_alloc _ _ _ (by simp)).trans (World.alloc_heap_new w _)
 have hk1:Kept [] w W1:=by rw[hW1];exact ((Kept.refl _ _).alloc _).alloc _
 have hb1:Below w.heap.size w W1:=by rw[hW1];exact ((Below.refl _ w).alloc (Nat.le_refl _) _).alloc (by simp) _
 refine⟨w.heap.size+1,[{ target:=.collected w.heap.size,args:=#[] }],W1,{ target:=.fn (.func gf) lb,args:=#[.func (.yield (w.heap.size+1)) #[] #[]] },W1,gf,
  #[.func (.yield (w.heap.size+1)) #[] #[]]++lb,W1,?_,?_,?_,?_,fun h=>by simp[Fence.wide] at h,?_⟩
 ·rw[hW1,hrec];exact run_enterLoop_outer _ _ _ _ _
 ·simp only[resolve,hg];simp[go_sem]
 ·intro f' _;trivial
 ·simp[invoke,go_sem,eg]
 ·refine CallsIn.mono (hseq (w.heap.size+1) (fun k S' W=>∃ S,S'=(w.heap.size+1)::S/\I k S W/\W.heap[w.heap.size+1]? = some (.loop (rec .ready))/\W.heap[w.heap.size]? = some (.deferred (some []))/\w.heap.size+1∉S/\w.heap.size∉S)
   ((w.heap.size+1)::S0) W1 hb1 ?_ ?_ ?_ ?_ ?_) ?_
  ·rintro k S' A ⟨S,rfl,hi,hl,hd,hnl,hnd⟩ b hb;rcases List.mem_cons.1 hb with rfl | hb
   ·exact (Array.getElem?_eq_some_iff.1 hl).1
   ·exact hlt k S A hi b hb
  ·rintro k S' A B ⟨S,rfl,hi,hl,hd,hnl,hnd⟩ hk hq;rw[hs1] at hk hq;have hal:=(Array.getElem?_eq_some_iff.1 hl).1;refine⟨S,rfl,hI k S _ A B hi hk (fun b hb=>?_),(hk.block _ hal (by simp)).trans hl,(hk.block _ (by omega) (by simp)).trans hd,hnl,hnd⟩;simp at hb;subst hb;exact⟨fun h=>hq (List.mem_cons_of_mem _ h),by omega⟩
  ·rintro k S' A XV hkm ⟨S,rfl,hi,hl,hd,hnl,hnd⟩;have hal:=(Array.getElem?_eq_some_iff.1 hl).1;have hy:=run_yield (P:=P) (args:=encs k) hl (by rw[hrec];exact hps k);rw[hrec] at hy;refine⟨fn,_,assign,body,hy,roundIn_of_wpIn hfn (hassign _ k A _ ?_)⟩;have hl2:(A.alloc (Fm k)).heap[w.heap.size+1]? = some (.loop (rec .ready)):=(Below.heap_alloc _ _ _ hal).trans hl;refine⟨_,run_beginRound hl2 (by rw[hrec]),?_⟩;obtain⟨Ab,KS⟩:∃ Ab,Ab=(A.alloc (Fm k)).putObj (w.heap.size+1) (.loop { rec .ready with state:=.busy }):=⟨_,rfl⟩;rw[<-KS];have hkb:Kept [w.heap.size+1] A Ab:=by rw[KS];exact ((Kept.refl _ _).alloc _).put _ _ (.inl (by simp))
   have hsb:Ab.heap.size=A.heap.size+1:=by rw[KS];simp
   have hlb:Ab.heap[w.heap.size+1]? = some (.loop { rec .ready with state:=.busy }):=by rw[KS];exact World.putObj_heap_same (by simp;omega)
   have hib:=hI k S _ A Ab hi hkb (fun b hb=>by simp at hb;subst hb;exact⟨hnl,by omega⟩);have hpb:Ab.heap[A.heap.size]? = some (Fm k):=by rw[KS,World.putObj_heap_other (by omega)];exact World.alloc_heap_new _ _
   refine wpIn_mono (hbody _ k S Ab A.heap.size XV hkm hib hpb (fun h=>by have:=hlt k S A hi _ h;omega)) ?_;rintro e a3 W3 hp;cases e with
   | normal=>
    obtain⟨S3,hi3,hk3,SY⟩:=hp;have hl3:=(hk3.block _ (by omega) hnl).trans hlb;have hs3:=hk3.size;have S9:w.heap.size+1∉S3:=fun h=>by rcases SY _ h with h | h;exact hnl h;omega
    have XW:w.heap.size∉S3:=fun h=>by rcases SY _ h with h | h;exact hnd h;omega
    refine⟨_,_,run_endRound (P:=P) none hl3,rfl,(w.heap.size+1)::S3,⟨S3,rfl,?_,?_,?_,S9,XW⟩,?_,?_⟩
    ·exact hI (k+1) S3 [w.heap.size+1] W3 _ hi3 ((Kept.refl _ _).put _ _ (.inl (by simp))) (fun b hb=>by simp at hb;subst hb;exact⟨S9,by omega⟩)
    ·rw[World.putObj_heap_same (by omega),hrec];rfl
    ·rw[World.putObj_heap_other (by omega),hk3.block _ (by omega) hnd,hkb.block _ (by omega) (by simp)];exact hd
    ·have h1:Kept ((w.heap.size+1)::S) A Ab:=⟨hkb.os,hkb.tape,hkb.output,hkb.size,fun b hb hm=>hkb.block b hb (fun h=>hm (by simp at h;subst h;simp))⟩;exact (h1.trans hk3 (fun x hx=>.inl (List.mem_cons_of_mem _ hx))).put _ _ (.inl (by simp))
    ·intro b hb;rcases List.mem_cons.1 hb with rfl | hb
     ·exact .inl (by simp)
     ·rcases SY b hb with h | h
      ·exact .inl (List.mem_cons_of_mem _ h)
      ·exact .inr (by omega)
   | ret=>exact hp.elim
   | exit id=>exact hp.elim
   | goto t=>exact hp.elim
   | panic ch=>exact hp.elim
   | outgrown=>exact hp.elim
  ·refine⟨S0,rfl,hI 1 S0 [] w W1 h0 hk1 (fun b hb=>by cases hb),hL1,hD1,?_,?_⟩
   ·intro h;have:=hlt 1 S0 w h0 _ h;omega
   ·intro h;have:=hlt 1 S0 w h0 _ h;omega
  ·intro b hb hp;rcases List.mem_cons.1 hb with rfl | hb
   ·have:=O3 _ hp;omega
   ·exact hS0 b hb hp
  ·rintro e W2 ⟨⟨v,rfl⟩,S',S,rfl,hi,hl,hd,hnl,hnd⟩;have hal:=(Array.getElem?_eq_some_iff.1 hl).1;refine⟨none,_,by have:=run_endLoop (P:=P) hl (by rw[hrec];simp);rw[hrec] at this;exact this,hdone _ S _ (Nat.le_refl _) ?_ hnd ((World.putObj_heap_other (by omega)).trans hd)⟩;exact hI m S [w.heap.size+1] W2 _ hi ((Kept.refl _ _).put _ _ (.inl (by simp))) (fun b hb=>by simp at hb;subst hb;exact⟨hnl,by omega⟩)
end Go.Proofs.YtnonoiafongllaaGreatDoor
set_option maxRecDepth 100000
set_option maxHeartbeats 2000000
namespace Go.Proofs.YtnonoiafongllaaGreatDoor
open Go.RowKit Go.Shelf
attribute [local go_sem] Oper.semAt_some
theorem xA (la:Option Addr) (m c:Nat) (w:World) :
  Calls Tryz.prog 110 #[.slice la m c] w fun e w'=>e = .returned (.func (.func 130) #[] #[.pointer (some ⟨w.heap.size,0,none⟩)])/\w'=w.alloc (.cells #[.slice la m c] 63):=by
 go_enter Tryz.func110,Tryz.ntmps110;go_wp2;go_ret;exact⟨rfl,rfl⟩
def jk (V:Nat->Nat) (k:Nat):Nat:=V k ^^^ V (k-1)
def jB (V:Nat->Nat) (k:Nat):Value:=fI (ah.eH (ah.aS V k) (jk V k)) (ah.aS V (k+1)).2.1 (ah.dJ (ah.aS V (k+1)))
def mW (V:Nat->Nat) (k:Nat):Array Value:=#[jB V k,.int .u64 (jk V k:Int)]
structure Ah (wr:World) (Bn lb lo m c:Nat) (V:Nat->Nat) (q k:Nat):Prop where
 box:wr.cell? ⟨Bn,0,none⟩=some (.slice (some ⟨lb,lo,none⟩) m c)
 vals:∀ i,i<m->wr.cell? ⟨lb,lo+i,none⟩=some (.int .u64 (V i:Int))
 tab:Tab wr
 win:wr.heap[q]? = some (.cells #[.int .i64 ((ah.aS V k).2.1:Int),.int .i64 ((ah.dJ (ah.aS V k):Nat):Int)] 153 (0,0))
theorem Ah.kept {wr wr':World} {Bn lb lo m c:Nat} {V:Nat->Nat} {q k:Nat} (h:Ah wr Bn lb lo m c V q k) {S:List Nat} (hk:Kept S wr wr') (h1:Bn∉S) (h2:lb∉S) (h3:13∉S) (h4:q∉S):Ah wr' Bn lb lo m c V q k:=
 ⟨hk.cell h.box h1,fun i hi=>hk.cell (h.vals i hi) h2,fun j hj=>hk.cell (h.tab j hj) h3,(hk.block q (lt_of_block h.win) h4).trans h.win⟩
theorem mX (V:Nat->Nat) (n:Nat) (hV:∀ i,i<n->V i<18446744073709551616):∀ k,k<=n->ah.oL (ah.aS V k)
 | 0,_=>by simp[ah.aS,ah.oL]
 | k+1,h=>by
  by_cases hk:k=0
  ·subst hk;rw[ah.mZ];simp[ah.oL]
  ·rw[ah.j3 V k hk];exact ah.HY (mX V n hV k (by omega)) _ (ah.qZ _ _ (hV k (by omega)) (hV (k-1) (by omega)))
theorem qC (Bn lb lo m c:Nat) (V:Nat->Nat) (w:World) (hm1:1<=m) (hm:m<=1000) (hV:∀ i,i<m->V i<18446744073709551616)
  (yj:w.cell? ⟨Bn,0,none⟩=some (.slice (some ⟨lb,lo,none⟩) m c)) (ny:∀ i,i<m->w.cell? ⟨lb,lo+i,none⟩=some (.int .u64 (V i:Int))) (hT:Tab w) :
  Rounds Tryz.prog 130 #[.pointer (some ⟨Bn,0,none⟩)] (mW V) m [Bn,lb,13] w:=by
 intro l J S0 W hbW Te Wx ZJ hJ0 hS0;have ZK:=lt_of_cell yj;have hlb:=lt_of_cell (ny 0 hm1);have hsW:=hbW.size;have Vi:=(hbW.cell (p:=⟨Bn,0,none⟩) ZK).trans yj;have Tf:∀ i,i<m->W.cell? ⟨lb,lo+i,none⟩=some (.int .u64 (V i:Int)):=fun i hi=>(hbW.cell (p:=⟨lb,lo+i,none⟩) hlb).trans (ny i hi)
 have ZL:=hT.below hbW hT.lt;have hG:=hT.lt;obtain⟨wa,eO⟩:∃ wa,wa=W.alloc (.cells #[.int .i64 0,.int .i64 0] 153):=⟨_,rfl⟩;have hka:Kept [W.heap.size] W wa:=by rw[eO];exact (Kept.refl _ _).alloc _
 have hsa:wa.heap.size=W.heap.size+1:=by rw[eO];simp
 have Tg:W.heap.size∉S0:=fun h=>by have:=Te 1 S0 W hJ0 _ h;omega
 have ZM:Ah wa Bn lb lo m c V W.heap.size 1:=by
  refine⟨hka.cell Vi (by simp;omega),fun i hi=>hka.cell (Tf i hi) (by simp;omega),fun j hj=>hka.cell (ZL j hj) (by simp;omega),?_⟩;rw[eO,ah.mZ];exact heap_alloc_new _ _
 have HIT:=(show Hid _ from ZM);have ZN:=(show Hid _ from Wx 1 S0 W wa hJ0 hka Tg);have XY:=(show Hid _ from Te);have Wy:=(show Hid _ from Wx);have ZO:=(show Hid _ from ZJ);have CB:Hid (∀ wx,wx=W.alloc (.cells #[.int .i64 0,.int .i64 0] 153)->wx=wa):=fun wx h=>h.trans eO.symm
 have ZP:Hid (∀ b,b∈S0->b ∉ [Bn,lb,13]/\b≠W.heap.size):=fun b hb=>⟨hS0 b hb,fun e=>Tg (e ▸ hb)⟩
 have HV:=(show Hid _ from hV);refine callsIn_of_wp Tryz.func130 rfl trivial ?_ rfl;simp only[Tryz.ntmps130,List.size_toArray,List.length_cons,List.length_nil,Nat.reduceAdd,Nat.reduceSub,Array.replicate_succ,Array.replicate_zero,List.push_toArray,List.append_toArray,List.nil_append,List.cons_append];gi_wp2;rw[CB.out _ rfl];gi_loopw [4,5,6] (fun i _ _ wr=>∃ (k:Nat) (S:List Nat),1<=k/\k<=m/\i = .int .i64 k/\J k S wr/\(∀ b,b∈S->b ∉ [Bn,lb,13]/\b≠W.heap.size)/\Ah wr Bn lb lo m c V W.heap.size k) (fun i _ _ _=>m-(intOf i).toNat);case atStart=>exact⟨1,S0,Nat.le_refl _,hm1,rfl,ZN.out,ZP.out,HIT.out⟩
 case round=>
  obtain⟨k,S,hk1,hkm,rfl,hJ,Wz,hit⟩:=hrel;have hb0:=hit.box;by_cases hlt:k<m
  ·obtain⟨j,rfl⟩:∃ j,k=j+1:=⟨k-1,by omega⟩;have hc1:=hit.vals (j+1) hlt;have hc0:=hit.vals j (by omega);have hv1:=HV.out (j+1) hlt;have hv0:=HV.out j (by omega);have Dw:=u64_xor_nat (V (j+1)) (V j) hv1 hv0;have hxl:=ah.qZ (V (j+1)) (V j) hv1 hv0;have hxe:jk V (j+1)=V (j+1) ^^^ V j:=rfl;have hwo:=mX V m HV.out (j+1) (by omega);have hst:=ah.j3 V (j+1) (by omega);obtain⟨x,hx⟩:∃ x,x=V (j+1) ^^^ V j:=⟨_,rfl⟩;have hst':ah.aS V (j+1+1)=ah.dQ (ah.aS V (j+1)) x:=by rw[hst,hx];rfl
   rw[<-hx] at Dw hxl hxe;have hfo:=fun w0 hT0=>ES (ah.aS V (j+1)) x w0 hwo hxl hT0
   rw[<-hst'] at hfo;obtain⟨L,hL⟩:∃ L,L=(ah.aS V (j+1)).2.1:=⟨_,rfl⟩;obtain⟨Wd,hWd⟩:∃ Wd,Wd=ah.dJ (ah.aS V (j+1)):=⟨_,rfl⟩;have hwin:=hit.win;rw[<-hL,<-hWd] at hfo hwin;unfold kC fI at hfo;have q0:=av hwin 0;have q1:=av hwin 1;have hargs:mW V (j+1)=#[.agg #[.int .i64 ((ah.eH (ah.aS V (j+1)) x:Nat):Int),.int .i64 ((ah.aS V (j+1+1)).2.1:Int),.int .i64 ((ah.dJ (ah.aS V (j+1+1)):Nat):Int)],.int .u64 (x:Int)]:=by
    unfold mW jB fI;rw[hxe]
   obtain⟨y,hy0⟩:∃ y,y=ah.eH (ah.aS V (j+1)) x:=⟨_,rfl⟩;obtain⟨L2,hL2⟩:∃ L2,L2=(ah.aS V (j+1+1)).2.1:=⟨_,rfl⟩;obtain⟨W2,hW2⟩:∃ W2,W2=ah.dJ (ah.aS V (j+1+1)):=⟨_,rfl⟩;rw[<-hy0,<-hL2,<-hW2] at hfo hargs;have HL2:=(show Hid _ from hL2);have HW2:=(show Hid _ from hW2);generalize hV1:V (j+1)=V1 at *;generalize ZQ:V j=V0 at *;have KO:=(show Hid _ from hfo);have HIT:=(show Hid _ from hit);have HJ:=(show Hid _ from hJ);have KX:=(show Hid _ from Wz);have XZ:=(show Hid _ from hargs);have Ti:=(show Hid _ from hwin);have hjI:(j:Int)+1<(m:Int):=by omega
   clear hfo hit hJ Wz hxe hwin hst hst' hwo hv1 hv0 hx hL hWd hV1 ZQ hxl hy0 hL2 hW2 hargs;gi_wp2;refine wpIn_wide.2 ?_;go_quiet (fail);gi_wp2_with fail;refine⟨trivial,rfl,?_⟩;refine CallsIn.mono (callsIn_wide.2 (KO.out _ (fun i hi=>HIT.out.tab i hi))) ?_;rintro e w1 ⟨rfl,hb1⟩;have hs1:wr.heap.size<=w1.heap.size:=hb1.size;have X0:Kept [W.heap.size] wr w1:=⟨hb1.os,hb1.tape,hb1.output,hb1.size,fun b hb _=>hb1.block b hb⟩;obtain⟨A,hA⟩:∃ A,A=w1.alloc (.cells #[.int .i64 (y:Int),.int .i64 (L2:Int),.int .i64 (W2:Int)] 156):=⟨_,rfl⟩;have ZR:Kept [W.heap.size] wr A:=by rw[hA];exact X0.alloc _
   have X3:Kept [] wr A:=by rw[hA];exact (Kept.of_below (S:=[]) (⟨hb1.os,hb1.tape,hb1.output,hb1.size,hb1.block⟩:Below wr.heap.size wr w1)).alloc _
   have O7:W.heap.size∉S:=fun h=>(KX.out _ h).2 rfl
   have ZT:=Wy.out _ S wr A HJ.out ZR O7;have ZU:A.heap[w1.heap.size]? = some (.cells #[.int .i64 (y:Int),.int .i64 (L2:Int),.int .i64 (W2:Int)] 156 (0,0)):=by rw[hA];exact heap_alloc_new _ _
   have hsA:A.heap.size=w1.heap.size+1:=by rw[hA];simp
   have Tj:w1.heap.size∉S:=fun h=>by have:=XY.out _ S wr HJ.out _ h;omega
   obtain⟨fn,tmps,assign,body,hy,hR⟩:=ZO.out (j+1) S A hk1 hlt ZT;rw[XZ.out] at hy;rw[hA] at hy;have Tk:=(show Hid _ from HIT.out.kept X3 (by simp) (by simp) (by simp) (by simp));have HR:=(show Hid _ from hR);have ZV:=(show Hid _ from ZU);have ZW:=(show Hid _ from hA);gi_wp2;refine⟨rfl,?_⟩;rw[<-ZW.out];refine RoundIn.mono HR.out ?_;rintro e W3 ⟨rfl,S',hJ3,hk3,WA⟩;have hqA:W.heap.size<wr.heap.size:=lt_of_block Ti.out;have hp3:=(hk3.block _ (by omega) Tj).trans ZV.out;have hit3:=Tk.out.kept hk3 (fun h=>(KX.out _ h).1 (by simp)) (fun h=>(KX.out _ h).1 (by simp)) (fun h=>(KX.out _ h).1 (by simp)) O7;have zm:W3.heap[W.heap.size]? = some (.cells #[.int .i64 (L:Int),.int .i64 (Wd:Int)] 153 (0,0)):=by
    have h1:=Tk.out.win;have h2:A.heap[W.heap.size]? = some (.cells #[.int .i64 (L:Int),.int .i64 (Wd:Int)] 153 (0,0)):=by
     rw[h1,<-HIT.out.win];exact Ti.out
    exact (hk3.block _ (by omega) O7).trans h2
   have p1:=av hp3 1;have p2:=av hp3 2;have z0:=av zm 0;have z1:=av zm 1;have y0:=aN zm 0;have y1:=aN zm 1;have X4:W.heap.size∉S':=fun h=>by rcases WA _ h with h | h;exact O7 h;omega
   obtain⟨B,hB⟩:∃ B,B=(W3.setCell ⟨W.heap.size,0,none⟩ (.int .i64 (L2:Int))).setCell ⟨W.heap.size,1,none⟩ (.int .i64 (W2:Int)):=⟨_,rfl⟩;have hkB:Kept [W.heap.size] W3 B:=by rw[hB];exact ((Kept.refl _ _).setCell (.inl (by simp)) _).setCell (.inl (by simp)) _
   have ZX:=Wy.out _ S' W3 B hJ3 hkB X4;have X5:Ah B Bn lb lo m c V W.heap.size (j+1+1):=by
    refine⟨hkB.cell hit3.box (by simp;omega),fun i hi=>hkB.cell (hit3.vals i hi) (by simp;omega),fun i hi=>hkB.cell (hit3.tab i hi) (by simp;omega),?_⟩;rw[hB,heap_set (heap_set zm 0 _) 1 _,HL2.out,HW2.out];rfl
   have ZY:∀ b,b∈S'->b ∉ [Bn,lb,13]/\b≠W.heap.size:=by
    intro b hb;rcases WA b hb with h | h
    ·exact KX.out b h
    ·refine⟨?_,by omega⟩;simp
     omega
   have Z0:=(show Hid _ from hB);have Z4:=(show Hid _ from ZX);have X6:=(show Hid _ from X5);have Z5:=(show Hid _ from ZY);gi_wp2;go_roundw;case rel=>rw[<-Z0.out];exact⟨j+1+1,S',by omega,by omega,by go_num,Z4.out,Z5.out,X6.out⟩
   case measure=>simp[intOf];omega
  ·have:k=m:=by omega
   subst this;have HJ:=(show Hid _ from hJ);gi_wp2;go_end0;exact⟨⟨_,rfl⟩,S,HJ.out⟩
end Go.Proofs.YtnonoiafongllaaGreatDoor
set_option maxRecDepth 1000000
set_option maxHeartbeats 4000000
namespace Go.Proofs.YtnonoiafongllaaGreatDoor
open Go.RowKit Go.Shelf
attribute [local go_sem] Oper.semAt_some
theorem KY (V:Nat->Nat) (m:Nat) (hV:∀ i,i<m->V i<18446744073709551616) (k:Nat) (h1:1<=k) (hk:k<m) :
  (ah.fT (ah.aS V k) (jk V k)).length=ah.iq (ah.partsOf (ah.eH (ah.aS V k) (jk V k)) (ah.aS V (k+1)).2.1 (ah.dJ (ah.aS V (k+1))) (jk V k)):=by
 have hx:=ah.qZ (V k) (V (k-1)) (hV k hk) (hV (k-1) (by omega));have hu:=mX V m hV k (by omega);rw[ah.j3 V k (by omega)];show (ah.fT _ (V k ^^^ V (k-1))).length=_;rw[ah.xw hu _ hx];rfl
theorem wrap_small (n:Int) (h0:0<=n) (h1:n<=1000000):IntKind.i64.wrap n=n:=by
 rw[IntKind.wrap_i64];omega
theorem Ib {w W w2:World} {a N n:Int} (hbx:W.heap[w.heap.size]? = some (.cells #[.int .i64 a] 3 (0,0))) (hbel:Below w.heap.size w W) (hb2:Below W.heap.size W w2) (hn:N=n) :
  (w2.setCell ⟨w.heap.size,0,none⟩ (.int .i64 n)).heap[w.heap.size]? = some (.cells #[.int .i64 N] 3 (0,0))/\Below w.heap.size w (w2.setCell ⟨w.heap.size,0,none⟩ (.int .i64 n))/\Kept [w.heap.size] W (w2.setCell ⟨w.heap.size,0,none⟩ (.int .i64 n)):=by
 subst hn;refine⟨?_,(hbel.trans (hb2.mono hbel.size)).setCell (Nat.le_refl _) _,(Kept.of_below hb2).setCell (.inl (by simp)) _⟩;rw[heap_set ((hb2.block _ (lt_of_block hbx)).trans hbx) 0 _];rfl
theorem Ic (lb lo m c:Nat) (V:Nat->Nat) (w:World) (hm1:1<=m) (hm:m<=1000) (hV:∀ i,i<m->V i<18446744073709551616)
  (ny:∀ i,i<m->w.cell? ⟨lb,lo+i,none⟩=some (.int .u64 (V i:Int))) (hT:Tab w) :
  Calls Tryz.prog 109 #[.slice (some ⟨lb,lo,none⟩) m c] w fun e w'=>e = .returned (.int .i64 ((ah.bC V m).length:Int))/\Below w.heap.size w w':=by
 have hm0:((m:Int)==0)=false:=by rw[beq_eq_false_iff_ne];omega
 have hlb:=lt_of_cell (ny 0 hm1);have Vk:=(show Hid _ from ny);have HV:=(show Hid _ from hV);have HT:Hid (Tab w):=hT;have hG:=hT.lt;refine callsIn_wide.1 (callsIn_of_wp_marks (n:=0) Tryz.func109 rfl trivial (wpIn_wide.2 ?_));simp only[Tryz.ntmps109,List.size_toArray,List.length_cons,List.length_nil,Nat.reduceAdd,Nat.reduceSub,Array.replicate_succ,Array.replicate_zero,List.push_toArray,List.append_toArray,List.nil_append,List.cons_append];go_wp2_with fail;refine Calls.mono (xA _ _ _ _) ?_;rintro e w1 ⟨rfl,rfl⟩;go_wp2;obtain⟨W0,hW0⟩:∃ W0,W0=(w.alloc (.cells #[.int .i64 64] 3)).alloc (.cells #[.slice (some ⟨lb,lo,none⟩) m c] 63):=⟨_,rfl⟩;have hs0:W0.heap.size=w.heap.size+2:=by rw[hW0];simp
 have hb0:Below w.heap.size w W0:=by rw[hW0];exact ((Below.refl _ _).alloc (Nat.le_refl _) _).alloc (by simp) _
 have hbx:W0.heap[w.heap.size]? = some (.cells #[.int .i64 64] 3 (0,0)):=by
  rw[hW0,Below.heap_alloc _ _ _ (by simp)];exact heap_alloc_new _ _
 have hbn:W0.heap[w.heap.size+1]? = some (.cells #[.slice (some ⟨lb,lo,none⟩) m c] 63 (0,0)):=by
  rw[hW0];have:=heap_alloc_new (w.alloc (.cells #[.int .i64 64] 3)) (.cells #[.slice (some ⟨lb,lo,none⟩) m c] 63);simpa using this
 rw[<-hW0];refine uY (gf:=130) (lb:=#[.pointer (some ⟨w.heap.size+1,0,none⟩)]) rfl (enters_of Tryz.func130 (by kernel_rfl) rfl) m (mW V) (fun _=>rfl) [w.heap.size+1,lb,13] (fun b hb=>by simp at hb;omega)
  (qC (w.heap.size+1) lb lo m c V W0 hm1 hm HV.out (av hbn 0) (fun i hi=>(hb0.cell (p:=⟨lb,lo+i,none⟩) hlb).trans (Vk.out i hi)) (HT.out.below hb0 hG))
  (fun k S W=>S = [w.heap.size]/\W.heap[w.heap.size]? = some (.cells #[.int .i64 ((ah.bC V k).length:Int)] 3 (0,0))/\Below w.heap.size w W)
  ?lt ?abide [w.heap.size] ?start ?apart (fun k=>.cells #[.int .i64 ((ah.eH (ah.aS V k) (jk V k):Nat):Int),.int .i64 ((ah.aS V (k+1)).2.1:Int),.int .i64 ((ah.dJ (ah.aS V (k+1)):Nat):Int)] 156)
  (fun k p=>{ tmps:=#[.slice (some ⟨lb,lo,none⟩) m c,undef,.int .i64 0,.pointer (some ⟨w.heap.size,0,none⟩),.pointer (some ⟨p,0,none⟩),.slice (some ⟨lb,lo,none⟩) m c,.int .i64 (m:Int),.bool false,.slice (some ⟨lb,lo,none⟩) m c,.func (.func 130) #[] #[.pointer (some ⟨w.heap.size+1,0,none⟩)],jB V k,.int .u64 (jk V k:Int),undef,undef,undef,undef,undef],defers:=[] })
  ?assign ?body ?done
 case lt=>
  rintro k S A ⟨rfl,hb,_⟩ b hm;simp at hm;subst hm;exact lt_of_block hb
 case abide=>
  rintro k S T A B ⟨rfl,hb,hbel⟩ hk hT;have hn:w.heap.size∉T:=fun h=>(hT _ h).1 (by simp)
  exact⟨rfl,(hk.block _ (lt_of_block hb) hn).trans hb,hbel.trans (hk.below hbel.size (fun x hx=>by have:=(hT x hx).2;omega))⟩
 case start=>exact⟨rfl,by rw[ah.jO,ah.aA];exact hbx,hb0⟩
 case apart=>intro b hb;simp at hb;subst hb;simp;omega
 case assign=>
  intro l k W K hK;unfold jB fI at hK;unfold mW jB fI;gi_wp2;exact hK
 case body=>
  rintro l k S W p hk1 hkm ⟨rfl,hb,hbel⟩ hp Tj;have hlen:=KY V m HV.out k hk1 hkm;have hstep:=ah.kE V k (by omega);have hwo:=mX V m HV.out (k+1) (by omega);have hwide:=ah.Af hwo;have hy:ah.eH (ah.aS V k) (jk V k)<=2:=by unfold ah.eH;(repeat' split)<;>omega
  have hle:=ah.iE V k;have hle2:=ah.um (ah.aS V k) (jk V k);rw[ah.H8] at hlen;have hsz:=fun w0=>Ia (ah.eH (ah.aS V k) (jk V k)) (ah.aS V (k+1)).2.1 (ah.dJ (ah.aS V (k+1))) w0 hy hwide
  rw[<-hlen] at hsz;have hnew:((ah.bC V (k+1)).length:Int)=((ah.bC V k).length:Int)+((ah.fT (ah.aS V k) (jk V k)).length:Int):=by
   rw[hstep,List.length_append];exact Int.natCast_add _ _
  unfold fI at hsz;unfold jB fI;generalize ah.eH (ah.aS V k) (jk V k)=y at *;generalize (ah.aS V (k+1)).2.1=L2 at *;generalize ah.dJ (ah.aS V (k+1))=W2 at *;generalize (ah.fT (ah.aS V k) (jk V k)).length=ad at *;generalize (ah.bC V k).length=tot at *;have Ie:=(show Hid _ from hnew);have jH:=(show Hid _ from hsz);have htI:(tot:Int)<=77000:=by omega
  have haI:(ad:Int)<=77:=by omega
  have c0:=av hb 0;have f0:=aN hb 0;have d0:=av hp 0;have d1:=av hp 1;have d2:=av hp 2;have Ig:=(show Hid _ from hbel);have Tm:=(show Hid _ from hb);have hwl:=lt_of_block hb;have abB:Tryz.prog.follows .mixedOrders=true:=by kernel_rfl
  clear hnew hsz hlen hstep hwo hwide hy hle hle2 hbel hb hbx hbn hp;gi_wp2_with fail;gi_region_with_o ((refine⟨trivial,rfl,?_⟩;refine CallsIn.mono (CallsIn.inRound l (callsIn_wide.2 (jH.out _))) ?_;rintro e w2 ⟨rfl,hb2⟩;have k0:w2.cell? ⟨w.heap.size,0,none⟩=some (.int .i64 (tot:Int)):=(hb2.cell (p:=⟨w.heap.size,0,none⟩) hwl).trans c0;have k1:w2.frozen? ⟨w.heap.size,0,none⟩=false:=(hb2.frozen (p:=⟨w.heap.size,0,none⟩) hwl).trans f0;have HB2:=(show Hid _ from hb2);clear hb2));all_goals
   have hend:=Ib (w:=w) (N:=((ah.bC V (k+1)).length:Int)) Tm.out Ig.out (pW HB2.out) (Ie.out.trans (wrap_small _ (by omega) (by omega)).symm);exact⟨[w.heap.size],⟨rfl,hend.1,hend.2.1⟩,hend.2.2,fun b hb=>.inl hb⟩
 case done=>
  rintro D S W hD ⟨rfl,hb,hbel⟩ WB hK;have c0:=av hb 0;have Ig:=(show Hid _ from hbel);go_wp2;refine⟨by simp,.inl ⟨_,_,rfl,run_takeDeferred hK,?_⟩⟩;exact⟨_,results_tmp rfl _ _ _,rfl,Ig.out.trans (((Kept.refl [D] W).put _ _ (.inl (by simp))).below Ig.out.size (fun x hx=>by simp at hx;subst hx;omega))⟩
end Go.Proofs.YtnonoiafongllaaGreatDoor
namespace Go.Proofs.YtnonoiafongllaaGreatDoor
open Go.RowKit Go.Shelf
attribute [local go_sem] Oper.semAt_some
theorem KZ (la:Option Addr) (c:Nat) (w:World) (p:Addr) :
  Calls Tryz.prog 64 #[.pointer (some p),.slice la 0 c] w fun e w'=>e = .returned .nilIface/\Below w.heap.size w w':=by
 go_enter Tryz.func64,Tryz.ntmps64;go_wp2;exact bodyPost_ret (v:=.nilIface) (by simp[results,Tryz.results64,go_sem]) rfl ⟨rfl,((Below.refl _ _).alloc (Nat.le_refl _) _).alloc (by simp) _⟩
structure kM (w w':World) (r:Nat) (v:Value) (bs:List Bool) (lb lo m:Nat) (V:Nat->Nat):Prop where
 row:aW w' r v bs
 vals:∀ i,i<m->w'.cell? ⟨lb,lo+i,none⟩=some (.int .u64 (V i:Int))
 tab:Tab w'
 box:w'.heap[w.heap.size]? = some (.cells #[.pointer (some ⟨r,0,none⟩)] 119 (0,0))
 err:w'.heap[w.heap.size+1]? = some (.cells #[.nilIface] 28 (0,0))
 bU:Below w.heap.size w w'
theorem kM.below {w a b:World} {r:Nat} {v:Value} {bs:List Bool} {lb lo m:Nat} {V:Nat->Nat} (h:kM w a r v bs lb lo m V) (hb:Below a.heap.size a b):kM w b r v bs lb lo m V:=
 ⟨h.row.below hb,fun i hi=>(hb.cell (p:=⟨lb,lo+i,none⟩) (lt_of_cell (h.vals i hi))).trans (h.vals i hi),h.tab.below hb h.tab.lt,(hb.block _ (lt_of_block h.box)).trans h.box,(hb.block _ (lt_of_block h.err)).trans h.err,h.bU.trans (hb.mono h.bU.size)⟩
theorem kM.drew {w a:World} {r:Nat} {v:Value} {bs:List Bool} {lb lo m:Nat} {V:Nat->Nat} (h:kM w a r v bs lb lo m V):kM w a.drew r v bs lb lo m V:=
 h.below ⟨rfl,rfl,rfl,Nat.le_refl _,fun _ _=>rfl⟩
theorem Ih {w w':World} {T:List Nat} {base:Nat} {e:TypeId} {s:Nat} {v:Value} {n:Nat} {xs:List Value} (h:w.ownsRow base e s v n xs) (hk:Kept T w w') (hT:∀ b,b∈v.ownBlock.toList->b∉T):w'.ownsRow base e s v n xs:=by
 obtain⟨hl,h2⟩:=h;refine⟨hl,?_⟩;rcases h2 with h2 | ⟨g,cap,cur,hv,hg,hh,rest⟩
 ·exact .inl h2
 ·exact .inr ⟨g,cap,cur,hv,hg,(hk.block g (lt_of_block hh) (hT g (by rw[hv];simp[Value.ownBlock]))).trans hh,rest⟩
theorem aW.vg {w w':World} {T:List Nat} {r:Nat} {v:Value} {bs:List Bool} (h:aW w r v bs) (hk:Kept T w w') (hT:∀ b,b∈r::v.ownBlock.toList->b∉T):aW w' r v bs:=
 ⟨(hk.block r h.lt (hT r (by simp))).trans h.hb,Ih h.own hk (fun b hb=>hT b (List.mem_cons_of_mem _ hb))⟩
structure nC (w w':World) (r:Nat) (v vk:Value) (bs:List Bool):Prop where
 row:aW w' r vk bs
 box:w'.heap[w.heap.size]? = some (.cells #[.pointer (some ⟨r,0,none⟩)] 119 (0,0))
 err:w'.heap[w.heap.size+1]? = some (.cells #[.nilIface] 28 (0,0))
 kept:Kept (r::v.ownBlock.toList) w w'
 grew:vk.ownBlock=v.ownBlock\/∃ g,vk.ownBlock=some g/\w.heap.size+2<=g
theorem nC.mem {w w':World} {r:Nat} {v vk:Value} {bs:List Bool} (h:nC w w' r v vk bs):∀ x,x∈r::vk.ownBlock.toList->x∈r::v.ownBlock.toList\/w.heap.size+2<=x:=by
 intro x hx;rcases List.mem_cons.1 hx with h1 | h1
 ·exact .inl (by rw[h1];simp)
 ·rcases h.grew with e | ⟨g,e,hg⟩
  ·rw[e] at h1;exact .inl (List.mem_cons.2 (.inr h1))
  ·rw[e] at h1;simp at h1;subst h1;exact .inr hg
theorem nC.step {w a b:World} {r:Nat} {v vk v5:Value} {bs bs':List Bool} (h:nC w a r v vk bs) (hv:∀ x,x∈r::v.ownBlock.toList->x<w.heap.size) (hr:aW b r v5 bs') (hk:Kept (r::vk.ownBlock.toList) a b) (hg:fB a vk v5):nC w b r v v5 bs':=by
 have hw:∀ x,w.heap.size<=x->x<w.heap.size+2->x∉r::vk.ownBlock.toList:=fun x h1 h2 hm=>by
  rcases h.mem x hm with h3 | h3
  ·have:=hv x h3;omega
  ·omega
 refine⟨hr,(hk.block _ (lt_of_block h.box) (hw _ (Nat.le_refl _) (by omega))).trans h.box,(hk.block _ (lt_of_block h.err) (hw _ (by omega) (by omega))).trans h.err,h.kept.trans hk (fun x hx=>?_),?_⟩
 ·rcases h.mem x hx with h1 | h1
  ·exact .inl h1
  ·exact .inr (by omega)
 ·have:=lt_of_block h.err;rcases hg with e | ⟨g,e,hg⟩
  ·rcases h.grew with e2 | ⟨g,e2,hg⟩
   ·exact .inl (e.trans e2)
   ·exact .inr ⟨g,e.trans e2,hg⟩
  ·exact .inr ⟨g,e,by omega⟩
theorem nC.vg {w a b:World} {T:List Nat} {r:Nat} {v vk:Value} {bs:List Bool} (h:nC w a r v vk bs) (hk:Kept T a b) (hT:∀ x,x∈T->x∉r::vk.ownBlock.toList/\w.heap.size+2<=x):nC w b r v vk bs:=
 ⟨h.row.vg hk (fun x hx hm=>(hT x hm).1 hx),(hk.block _ (lt_of_block h.box) (fun hm=>by have:=(hT _ hm).2;omega)).trans h.box,(hk.block _ (lt_of_block h.err) (fun hm=>by have:=(hT _ hm).2;omega)).trans h.err,
  h.kept.trans hk (fun x hx=>.inr (by have:=(hT x hx).2;omega)),h.grew⟩
theorem qU (V:Nat->Nat) (a:Nat):∀ b,a<=b->(ah.bC V a).length<=(ah.bC V b).length
 | 0,h=>by obtain rfl:a=0:=(by omega);exact Nat.le_refl _
 | b+1,h=>by
  rcases Nat.lt_or_ge b a with h1 | h1
  ·have:a=b+1:=by omega
   subst this;exact Nat.le_refl _
  ·have ih:=qU V a b h1;by_cases hb:b=0
   ·subst hb;have:a=0:=by omega
    subst this;simp[ah.bC]
   ·rw[ah.kE V b hb,List.length_append];omega
theorem K4 (lb lo m c:Nat) (V:Nat->Nat) (w:World) (hm1:1<=m) (hm:m<=1000) (hV:∀ i,i<m->V i<18446744073709551616)
  (ny:∀ i,i<m->w.cell? ⟨lb,lo+i,none⟩=some (.int .u64 (V i:Int))) (hT:Tab w) (r:Nat) (v:Value) (bs:List Bool) (hr:aW w r v bs) (hlb:lb∉r::v.ownBlock.toList) (WC:13<r)
  (hsz:bs.length+(ah.bC V m).length<=1048576) :
  Calls Tryz.prog 64 #[.pointer (some ⟨r,0,none⟩),.slice (some ⟨lb,lo,none⟩) m c] w fun e w'=>e = .returned .nilIface/\∃ v',aW w' r v' (bs++ah.bC V m)/\Kept (r::v.ownBlock.toList) w w'/\fB w v v':=by
 have hm0:((m:Int)==0)=false:=by rw[beq_eq_false_iff_ne];omega
 obtain⟨W0,hW0⟩:∃ W0,W0=(w.alloc (.cells #[.pointer (some ⟨r,0,none⟩)] 119)).alloc (.cells #[.nilIface] 28):=⟨_,rfl⟩;have hb0:Below w.heap.size w W0:=by rw[hW0];exact ((Below.refl _ _).alloc (Nat.le_refl _) _).alloc (by simp) _
 have WE:kM w W0 r v bs lb lo m V:=by
  refine⟨hr.below hb0,fun i hi=>(hb0.cell (p:=⟨lb,lo+i,none⟩) (lt_of_cell (ny i hi))).trans (ny i hi),hT.below hb0 hT.lt,?_,?_,hb0⟩
  ·rw[hW0,Below.heap_alloc _ _ _ (by simp)];exact heap_alloc_new _ _
  ·rw[hW0];have:=heap_alloc_new (w.alloc (.cells #[.pointer (some ⟨r,0,none⟩)] 119)) (.cells #[.nilIface] 28);simpa using this
 have O8:=(show Hid _ from WE);have HW0:=(show Hid _ from hW0);have HV:=(show Hid _ from hV);have jH:=(show Hid _ from hsz);have Z6:=(show Hid _ from hlb);have HR:=(show Hid _ from hr);have hsize:∀ w0,kM w w0 r v bs lb lo m V->Calls Tryz.prog 109 #[.slice (some ⟨lb,lo,none⟩) m c] w0 fun e w'=>e = .returned (.int .i64 ((ah.bC V m).length:Int))/\w'.cell? ⟨w.heap.size,0,none⟩=some (.pointer (some ⟨r,0,none⟩))/\kM w w' r v bs lb lo m V:=fun w0 h0=>by
  refine (Ic lb lo m c V w0 hm1 hm hV h0.vals h0.tab).mono ?_;rintro e w' ⟨rfl,hb⟩;have h1:=h0.below hb;exact⟨rfl,av h1.box 0,h1⟩
 have hroom:∀ w0,kM w w0 r v bs lb lo m V->Calls Tryz.prog 103 #[.pointer (some ⟨r,0,none⟩)] w0 fun e w'=>e = .returned (.int .i64 (1048576-(bs.length:Int)))/\w'.cell? ⟨w.heap.size,0,none⟩=some (.pointer (some ⟨r,0,none⟩))/\kM w w' r v bs lb lo m V:=fun w0 h0=>by
  refine (sD w0 r v bs h0.row (by omega)).mono ?_;rintro e w' ⟨rfl,rfl⟩;exact⟨rfl,av h0.box 0,h0⟩
 have hput:∀ w0,kM w w0 r v bs lb lo m V->Calls Tryz.prog 62 #[.pointer (some ⟨r,0,none⟩),.int .u64 (V 0:Int),.int .i64 64] w0 fun e w'=>e = .returned .nilIface/\(w'.cell? ⟨w.heap.size,0,none⟩=some (.pointer (some ⟨r,0,none⟩))/\w'.cell? ⟨lb,lo,none⟩=some (.int .u64 (V 0:Int)))/\∃ v1,nC w w' r v v1 (bs++ah.bC V 1)/\(∀ i,i<m->w'.cell? ⟨lb,lo+i,none⟩=some (.int .u64 (V i:Int)))/\Tab w':=fun w0 h0=>by
  have hmono:=qU V 1 m hm1;rw[ah.jO,ah.aA] at hmono;have hv0:=hV 0 hm1;refine (fQ w0 r v bs h0.row (V 0) 64 (by omega) (by omega) (by omega)).mono ?_;rintro e w' ⟨rfl,v1,hr1,hk1,hg1⟩;have WG:∀ x,w.heap.size<=x->x∉r::v.ownBlock.toList:=fun x hx hm=>by have:=hr.dU x hm;omega
  have hbx:=(hk1.block _ (lt_of_block h0.box) (WG _ (Nat.le_refl _))).trans h0.box;have K5:∀ i,i<m->w'.cell? ⟨lb,lo+i,none⟩=some (.int .u64 (V i:Int)):=fun i hi=>hk1.cell (h0.vals i hi) hlb
  refine⟨rfl,⟨av hbx 0,by simpa using K5 0 hm1⟩,v1,⟨by rw[ah.jO];exact hr1,hbx,(hk1.block _ (lt_of_block h0.err) (WG _ (by omega))).trans h0.err,(Kept.of_below h0.bU).trans hk1 (fun x hx=>.inl hx),by have:=lt_of_block h0.err;rcases hg1 with e | ⟨g,e,hg⟩;exact .inl e;exact .inr ⟨g,e,by omega⟩⟩,K5,fun j hj=>hk1.cell (h0.tab j hj) (fun hm=>by have:=hr.rW _ hm;omega)⟩
 have qR:=(show Hid _ from hput);have Vl:=(show Hid _ from hsize);have Hu:=(show Hid _ from hroom);have abC:decide ((1048576:Int)-(bs.length:Int)<((ah.bC V m).length:Int))=false:=by simp;omega
 generalize WH:(ah.bC V m).length=LN at *;have Z7:=(show Hid _ from WH);have Tn:=(show Hid _ from lt_of_cell (ny 0 hm1));clear hput hsize hroom WE hW0 hb0 hr hT ny hV hsz hlb WH;refine callsIn_wide.1 (callsIn_of_wp_marks (n:=0) Tryz.func64 rfl trivial (wpIn_wide.2 ?_));simp only[Tryz.ntmps64,List.size_toArray,List.length_cons,List.length_nil,Nat.reduceAdd,Nat.reduceSub,Array.replicate_succ,Array.replicate_zero,List.push_toArray,List.append_toArray,List.nil_append,List.cons_append];go_wp2_with fail;have c0:=av O8.out.box 0;rw[<-HW0.out];go_region_held3 (fun w'=>w'.cell? ⟨w.heap.size,0,none⟩=some (.pointer (some ⟨r,0,none⟩))) (go_keep) ((first | (go_at_call 109;refine Calls.mono (Vl.out _ (by first | exact O8.out | exact O8.out.drew)) ?_;rintro e w1 ⟨rfl,k1,hp1⟩;have pV:=(show Hid _ from hp1);clear hp1 O8) | (go_at_call 103;refine Calls.mono (Hu.out _ (by first | exact pV.out | exact pV.out.drew)) ?_;rintro e w2 ⟨rfl,k2,hp2⟩;have qA:=(show Hid _ from hp2);clear hp2 pV)));have hc0:w2.cell? ⟨lb,lo,none⟩=some (.int .u64 (V 0:Int)):=by simpa using qA.out.vals 0 hm1
 have hmN:0<m:=hm1;go_wp2_with fail;go_region_held3 (fun w'=>w'.cell? ⟨w.heap.size,0,none⟩=some (.pointer (some ⟨r,0,none⟩))/\w'.cell? ⟨lb,lo,none⟩=some (.int .u64 (V 0:Int))) (go_keep) ((go_at_call 62;refine Calls.mono (qR.out _ (by first | exact qA.out | exact qA.out.drew)) ?_;rintro e w3 ⟨rfl,⟨k3,k4⟩,v1,hra,hvl,htb⟩;have K6:=(show Hid _ from hra);have WJ:=(show Hid _ from hvl);have DK:Hid (Tab w3):=htb;clear hra hvl htb qA qR));go_wp2_with fail;refine Calls.mono (xA _ _ _ _) ?_;rintro e w4 ⟨rfl,rfl⟩;go_wp2;obtain⟨W4,O9⟩:∃ W4,W4=w3.alloc (.cells #[.slice (some ⟨lb,lo,none⟩) m c] 63):=⟨_,rfl⟩;have hs4:W4.heap.size=w3.heap.size+1:=by rw[O9];simp
 have hk4:Kept [] w3 W4:=by rw[O9];exact (Kept.refl _ _).alloc _
 have hbn:W4.heap[w3.heap.size]? = some (.cells #[.slice (some ⟨lb,lo,none⟩) m c] 63 (0,0)):=by rw[O9];exact heap_alloc_new _ _
 rw[<-O9];have X7:=K6.out.vg hk4 (fun x hx=>by cases hx);have hs3:=lt_of_block K6.out.err;have abD:=lt_of_cell (WJ.out 0 hm1);have hG3:=DK.out.lt;refine uY (gf:=130) (lb:=#[.pointer (some ⟨w3.heap.size,0,none⟩)]) rfl (enters_of Tryz.func130 (by kernel_rfl) rfl) m (mW V) (fun _=>rfl) [w3.heap.size,lb,13] (fun b hb=>by simp at hb;omega)
  (qC w3.heap.size lb lo m c V W4 hm1 hm HV.out (av hbn 0) (fun i hi=>hk4.cell (WJ.out i hi) (by simp)) (fun j hj=>hk4.cell (DK.out j hj) (by simp)))
  (fun k S W=>∃ vk,S=r::vk.ownBlock.toList/\nC w W r v vk (bs++ah.bC V k))
  ?lt ?abide (r::v1.ownBlock.toList) ?start ?apart (fun k=>.cells #[.int .i64 ((ah.eH (ah.aS V k) (jk V k):Nat):Int),.int .i64 ((ah.aS V (k+1)).2.1:Int),.int .i64 ((ah.dJ (ah.aS V (k+1)):Nat):Int)] 156)
  (fun k p=>{ tmps:=#[.pointer (some ⟨r,0,none⟩),.slice (some ⟨lb,lo,none⟩) m c,.pointer (some ⟨w.heap.size,0,none⟩),undef,.pointer (some ⟨w.heap.size+1,0,none⟩),.nilIface,.pointer (some ⟨p,0,none⟩),.int .u64 (jk V k:Int),undef,
   .pointer (some ⟨r,0,none⟩),.bool false,undef,.slice (some ⟨lb,lo,none⟩) m c,.int .i64 (m:Int),.bool false,.slice (some ⟨lb,lo,none⟩) m c,.int .i64 (LN:Int),.pointer (some ⟨r,0,none⟩),.int .i64 (1048576-(bs.length:Int)),.bool false,
   undef,.pointer (some ⟨r,0,none⟩),.slice (some ⟨lb,lo,none⟩) m c,.pointer (some ⟨lb,lo,none⟩),.int .u64 (V 0:Int),.nilIface,.nilIface,.bool false,undef,.slice (some ⟨lb,lo,none⟩) m c,.func (.func 130) #[] #[.pointer (some ⟨w3.heap.size,0,none⟩)],jB V k,.int .u64 (jk V k:Int),undef,undef,undef,undef,undef,undef,undef],defers:=[] })
  ?assign ?body ?done
 case lt=>
  rintro k S A ⟨vk,rfl,hra⟩ b hb;exact hra.row.dU b hb
 case abide=>
  rintro k S T A B ⟨vk,rfl,hra⟩ hk hT;exact⟨vk,rfl,hra.vg hk (fun x hx=>⟨(hT x hx).1,by have:=(hT x hx).2;omega⟩)⟩
 case start=>exact⟨v1,rfl,X7⟩
 case apart=>
  intro b hb hp;have hlt:=K6.out.row.dU b hb;have hge:=K6.out.row.rW b hb;simp at hp;rcases hp with hp | hp | hp
  ·omega
  ·subst hp;rcases K6.out.mem b hb with h | h
   ·exact Z6.out h
   ·have:=Tn.out;omega
  ·omega
 case assign=>
  intro l k W K hK;unfold jB fI at hK;unfold mW jB fI;gi_wp2;exact hK
 case body=>
  rintro l k S W p hk1 hkm ⟨vk,rfl,hra⟩ hp Tj;have hx:=ah.qZ (V k) (V (k-1)) (HV.out k hkm) (HV.out (k-1) (by omega));have hu:=mX V m HV.out k (by omega);have hwo:=mX V m HV.out (k+1) (by omega);have hwide:=ah.Af hwo;have hy:ah.eH (ah.aS V k) (jk V k)<=2:=by unfold ah.eH;(repeat' split)<;>omega
  have hstep:=ah.kE V k (by omega);have hmb:=ah.xw hu _ hx;rw[<-ah.j3 V k (by omega)] at hmb;have hmono:=qU V (k+1) m (by omega);have hsz:=jH.out;have hput:=KW (ah.eH (ah.aS V k) (jk V k)) (ah.aS V (k+1)).2.1 (ah.dJ (ah.aS V (k+1))) (jk V k) W hy hwide hx r vk (bs++ah.bC V k) hra.row (by
   have e:ah.iq (ah.partsOf (ah.eH (ah.aS V k) (jk V k)) (ah.aS V (k+1)).2.1 (ah.dJ (ah.aS V (k+1))) (jk V k))=(ah.fT (ah.aS V k) (V k ^^^ V (k-1))).length:=by rw[hmb];rfl
   rw[e,List.length_append];rw[hstep,List.length_append] at hmono;have:=Z7.out;omega)
  have hnew:bs++ah.bC V k++ah.eY (ah.partsOf (ah.eH (ah.aS V k) (jk V k)) (ah.aS V (k+1)).2.1 (ah.dJ (ah.aS V (k+1))) (jk V k))=bs++ah.bC V (k+1):=by
   rw[hstep,hmb,List.append_assoc];rfl
  rw[hnew] at hput;unfold fI at hput;unfold jB fI;generalize ah.eH (ah.aS V k) (jk V k)=y at *;generalize (ah.aS V (k+1)).2.1=L2 at *;generalize ah.dJ (ah.aS V (k+1))=W2 at *;have qR:=(show Hid _ from hput);have DX:=(show Hid _ from hra);have c0:=av hra.box 0;have d0:=av hp 0;have d1:=av hp 1;have d2:=av hp 2;generalize jk V k=x at *;gi_wp2_with fail;refine⟨trivial,rfl,?_⟩;refine CallsIn.mono (CallsIn.inRound l (callsIn_wide.2 qR.out)) ?_;rintro e w5 ⟨rfl,v5,Z8,hk5,hg5⟩;have X8:=DX.out.step HR.out.dU Z8 hk5 hg5;have X9:=(show Hid _ from X8);have Z9:=(show Hid _ from hk5);have HG5:=(show Hid _ from hg5);gi_wp2;exact⟨r::v5.ownBlock.toList,⟨v5,rfl,X9.out⟩,Z9.out,fB.mem HG5.out⟩
 case done=>
  rintro D S W hD ⟨vk,rfl,hra⟩ WB hK;have c0:=av hra.err 0;have f0:=aN hra.err 0;have DX:=(show Hid _ from hra);go_wp2;have hK':(W.setCell ⟨w.heap.size+1,0,none⟩ .nilIface).heap[D]? = some (.deferred (some [])):=(Below.heap_setCell _ _ _ _ (by show D≠w.heap.size+1;omega)).trans hK;obtain⟨Z,hZ⟩:∃ Z,Z=(W.setCell ⟨w.heap.size+1,0,none⟩ .nilIface).putObj D (.deferred none):=⟨_,rfl⟩;have WK:Kept [w.heap.size+1,D] W Z:=by rw[hZ];exact ((Kept.refl _ _).setCell (.inl (by simp)) _).put _ _ (.inl (by simp))
  have hcZ:Z.cell? ⟨w.heap.size+1,0,none⟩=some .nilIface:=by
   refine av (cs:=#[.nilIface]) (t:=28) ?_ 0;rw[hZ,World.putObj_heap_other (by omega),heap_set DX.out.err 0 _];rfl
  have Vm:aW Z r vk (bs++ah.bC V m):=DX.out.row.vg WK (fun b hb hm=>by
   simp at hm;rcases hm with hm | hm
   ·rcases DX.out.mem b hb with h | h
    ·have:=HR.out.dU b h;omega
    ·omega
   ·subst hm;exact WB hb)
  refine⟨by simp,.inl ⟨_,_,rfl,run_takeDeferred hK',?_⟩⟩;rw[<-hZ];refine⟨.nilIface,by simp[results,Tryz.results64,go_sem,hcZ],rfl,vk,Vm,DX.out.kept.trans WK (fun x hx=>.inr (by simp at hx;omega)),?_⟩;rcases DX.out.grew with e | ⟨g,e,hg⟩
  ·exact .inl e
  ·exact .inr ⟨g,e,by omega⟩
end Go.Proofs.YtnonoiafongllaaGreatDoor
namespace Go.Proofs.YtnonoiafongllaaGreatDoor
open Go.RowKit
theorem Nw (w:World) (hT:Tab w) (la:Option Addr) (n c:Nat) (B:Nat->Nat) (hU:kN w la n B) (hn:n<=1000) (r:Nat) (v:Value) (bs:List Bool) (hr:aW w r v bs) (hne:∀ x,la=some x->x.block∉r::v.ownBlock.toList) (WC:13<r)
  (hsz:bs.length+(ah.bC B n).length<=1048576) :
  Calls Tryz.prog 64 #[.pointer (some ⟨r,0,none⟩),.slice la n c] w fun e w'=>e = .returned .nilIface/\∃ v',aW w' r v' (bs++ah.bC B n)/\Kept (r::v.ownBlock.toList) w w'/\fB w v v':=by
 by_cases h0:n=0
 ·subst h0;refine (KZ la c w ⟨r,0,none⟩).mono ?_;rintro e w' ⟨rfl,hb⟩;exact⟨rfl,v,by rw[show ah.bC B 0 = [] from rfl,List.append_nil];exact hr.below hb,Kept.of_below hb,.inl rfl⟩
 ·rcases hU with h | ⟨b,o,rfl,hc⟩
  ·exact absurd h h0
  ·exact K4 b o n c B w (by omega) hn (fun i hi=>(hc i hi).2) (fun i hi=>(hc i hi).1) hT r v bs hr (hne _ rfl) WC hsz
theorem K7 (w:World) (hF:Forms w) (hT:Tab w) (la:Option Addr) (n c:Nat) (T:Nat->Int) (B:Nat->Nat) (hP:gB w la n T B) (hn:n<=120) (hok:∀ i,i<n -> -1099511627776<=T i/\T i<=1099511627776) :
  Calls Tryz.prog 39 #[.slice la n c] w fun e w'=>e = .returned (.tuple #[.string ⟨(ah.pack (bQ T B n)).toArray⟩,.nilIface])/\Below w.heap.size w w':=by
 have HP:Hid (gB w la n T B):=hP;have iO:=(show Hid _ from hok);have HF:Hid (Forms w):=hF;have HT:Hid (Tab w):=hT;have DF:=hF.lt;have Tq:=hT.lt;go_enter Tryz.func39,Tryz.ntmps39;go_wp2_with fail;go_loopw [4,5,7,14] (fun t u _ i wr=>∃ (k:Nat) (vt vu:Value),k<=n/\i = .int .i64 k/\vt=t/\vu=u/\wr.ownsRow w.heap.size 3 1 vt k (fP (dO T k))/\wr.ownsRow w.heap.size 53 1 vu k (dX (bY B k))/\(∀ g,vt.ownBlock=some g->vu.ownBlock≠some g)/\Below w.heap.size w wr) (fun _ _ _ i _=>n-(intOf i).toNat);case atStart=>exact⟨0,_,_,Nat.zero_le _,rfl,rfl,rfl,⟨rfl,.inl ⟨rfl,rfl⟩⟩,⟨rfl,.inl ⟨rfl,rfl⟩⟩,fun g hg=>by simp[Value.ownBlock] at hg,Below.refl _ _⟩
 case round=>
  obtain⟨k,vt,vu,hk,rfl,rfl,rfl,hot,hou,hne,hb⟩:=hrel;by_cases hkn:k<n
  ·obtain⟨lb,lo,rfl,hcs⟩:=HP.out.at k hkn;obtain⟨hc0,hc1,hT0,hT1,hB⟩:=hcs k hkn;have hlb:lb<w.heap.size:=World.block_lt_of_cell? w ⟨lb,_,none⟩ hc0;have hst:=rT T k;have hsu:=rU B k;have Sr:=(hb.cell (p:=⟨lb,_,none⟩) hlb).trans hc0;have Ng:=(hb.cell (p:=⟨lb,_,none⟩) hlb).trans hc1;generalize T k=t at *;generalize B k=y at *;have hk0:(0:Int)<=(k:Int):=by omega
   have hk1:(k:Int)<(n:Int):=by omega
   obtain⟨i0,hi,hz0,hz1,hz2⟩:=info_parts Tryz.infoIntR;obtain⟨j0,hj,hy0,hy1,hy2⟩:=info_parts Tryz.infoU64;have hwl:=hb.size;obtain⟨W1,hW1⟩:∃ W1,W1=wr.alloc (.cells #[.int .i64 t,.int .u64 (y:Int)] 55):=⟨_,rfl⟩;have hs1:W1.heap.size=wr.heap.size+1:=by rw[hW1];simp
   have hblk1:W1.heap[wr.heap.size]? = some (.cells #[.int .i64 t,.int .u64 (y:Int)] 55 (0,0)):=by rw[hW1];exact heap_alloc_new _ _
   have Ya:W1.ownsRow w.heap.size 3 1 vt k (fP (dO T k)):=by rw[hW1];exact hot.alloc _
   have uV:W1.ownsRow w.heap.size 53 1 vu k (dX (bY B k)):=by rw[hW1];exact hou.alloc _
   have Yb:Below w.heap.size w W1:=by rw[hW1];exact hb.alloc hwl _
   have hvt:vt.ownBlock≠some wr.heap.size:=fun h=>by have:=(dU hot _ h).1;omega
   have hvu:vu.ownBlock≠some wr.heap.size:=fun h=>by have:=(dU hou _ h).1;omega
   have Ho:((wr.alloc (.cells #[.int .i64 t,.int .u64 (y:Int)] 55)).alloc (.cells #[.int .i64 t] 3)).ownsRow w.heap.size 3 1 vt k (fP (dO T k)):=(hot.alloc _).alloc _;have Sv:=(show Hid _ from Ya);have KG:Hid (W1.ownsRow w.heap.size 53 1 vu k (dX (bY B k))):=uV;have KH:=(show Hid _ from hne);have HB:=(show Hid _ from Yb);have HST:=(show Hid _ from hst);have Sy:=(show Hid _ from hsu);have HW1:=(show Hid _ from hW1);have HBK:=(show Hid _ from hblk1);have HVT:=(show Hid _ from (fun h=>hvt h:vt.ownBlock=some wr.heap.size->False));go_wp2_with (at_builtin;refine wpList_append_lies _ rfl _ _ 60 rfl w.heap.size 3 i0 (.int .i64 0) 1 8 Tryz.underlying60 hi hz0 hz1 hz2 rfl (by decide) _ _ _ rfl Ho ⟨wr.heap.size+1,0,none⟩ 1 1 [.int .i64 t] rfl rfl ?c1 ?c2 (by omega) ?c3 ?c4 ?c5 (wr.heap.size+2) (by simp) ?_);try (case c1=>intro j u hj;match j,hj with | 0,hj=>simp at hj;subst hj;simp[Addr.add])
   case c2=>first | rfl | (intro u hu;simp at hu;subst hu;rfl)
   case c3=>unfold maxLen;omega
   case c4=>omega
   case c5=>first | omega | (simp;omega)
   intro g1 Ac w1 hown1 hgrow hat hlt1;rw[<-HW1.out] at hgrow;have hb1:=lF HB.out Sv.out hgrow;have uV:=wB (KG.out.alloc _) hgrow (fun g hg h=>KH.out g h hg);have hcell:∀ i,w1.cell? ⟨wr.heap.size,i,none⟩=(#[Value.int .i64 t,Value.int .u64 (y:Int)]:Array Value)[i]?:=by
    have h1:w1.heap[wr.heap.size]? = some (.cells #[.int .i64 t,.int .u64 (y:Int)] 55 (0,0)):=by
     rw[hgrow.block wr.heap.size (by simp;omega) (fun h=>HVT.out h.symm),Below.heap_alloc _ _ _ (by omega)];exact HBK.out
    exact av h1
   rw[uU,<-HST.out] at hown1;have hne1:vu.ownBlock≠some g1:=by
    intro h;rcases hat with h1 | h1
    ·exact KH.out g1 h1 h
    ·have:=(dU KG.out g1 h).1;omega
   have Ng:=hcell 1;have Hq:(w1.alloc (.cells #[.int .u64 (y:Int)] 53)).ownsRow w.heap.size 53 1 vu k (dX (bY B k)):=uV.alloc _;have hs1:=hb1.size;have Nh:Hid (w1.ownsRow w.heap.size 3 1 (.slice (some ⟨g1,0,none⟩) (k+1) Ac) (k+1) (fP (dO T (k+1)))):=hown1;have Ni:=(show Hid _ from uV);have HB1:=(show Hid _ from hb1);have Dz:=(show Hid _ from (fun h=>hne1 h:vu.ownBlock=some g1->False));have Nj:=(show Hid _ from hlt1);go_wp2_with (at_builtin;refine wpList_append_lies _ rfl _ _ 63 rfl w.heap.size 53 j0 (.int .u64 0) 1 8 Tryz.underlying63 hj hy0 hy1 hy2 rfl (by decide) _ _ _ rfl Hq ⟨w1.heap.size,0,none⟩ 1 1 [.int .u64 (y:Int)] rfl rfl ?d1 ?d2 (by omega) ?d3 ?d4 ?d5 (w1.heap.size+1) (by simp) ?_);try (case d1=>intro j u hj;match j,hj with | 0,hj=>simp at hj;subst hj;simp[Addr.add])
   case d2=>first | rfl | (intro u hu;simp at hu;subst hu;rfl)
   case d3=>unfold maxLen;omega
   case d4=>omega
   case d5=>first | omega | (simp;omega)
   intro g2 cap2 w2 hown2 hgrow2 Hr hlt2;have hb2:=lF HB1.out Ni.out hgrow2;have Ht:=wB (Nh.out.alloc _) hgrow2 (fun g hg h=>by
    simp[Value.ownBlock] at hg;subst hg;exact Dz.out h)
   rw[tN,<-Sy.out] at hown2;have hne2:∀ g,(Value.slice (some ⟨g1,0,none⟩) (k+1) Ac).ownBlock=some g->(Value.slice (some ⟨g2,0,none⟩) (k+1) cap2).ownBlock≠some g:=by
    intro g hg h;simp[Value.ownBlock] at hg h;subst hg;rcases Hr with h1 | h1
    ·rw[h] at h1;exact Dz.out h1
    ·have:=Nj.out;omega
   have Nk:=(show Hid _ from Ht);have Nl:=(show Hid _ from hown2);have HB2:=(show Hid _ from hb2);have Nn:=(show Hid _ from hne2);go_wp2;go_roundw;case rel=>exact⟨k+1,_,_,by omega,by go_num,rfl,rfl,Nk.out,Nl.out,Nn.out,HB2.out⟩
   case measure=>simp[intOf]<;>omega
  ·have hke:k=n:=by omega
   subst hke;have Yc:=dU hot;have Yd:=dU hou;obtain⟨at_,ct,rfl,hI⟩:=Dx hot;obtain⟨au,cu,rfl,hU⟩:=Dy hou (fun i hi=>by
    obtain⟨_,_,_,hcs⟩:=HP.out.at i hi;exact (hcs i hi).2.2.2.2)
   have HI:Hid (Ints wr at_ k T):=hI;have HU:Hid (kN wr au k B):=hU;have HLT:=(show Hid _ from Yc);have HLU:=(show Hid _ from Yd);have HB:=(show Hid _ from hb);have hwl:=hb.size;have Zu:IntKind.u64.wrap (k:Int)=(k:Int):=IntWalk.u64_in _ (by omega);have Ie:=(show Hid _ from PW wr);go_wp2_with fail;refine Calls.mono Ie.out ?_;rintro e w1 ⟨rfl,hr1,hb1,hs1⟩;obtain⟨r,hrr⟩:∃ r,r=wr.heap.size:=⟨_,rfl⟩;rw[<-hrr] at hr1 hs1 hwl ⊢;have qR:=(show Hid _ from fQ w1 r (.slice none 0 0) [] hr1 k 8 (by omega) (by omega) (by simp));have HB1:=(show Hid _ from hb1);have HRR:=(show Hid _ from hrr);clear Ie hr1 hb1 hrr;go_wp2_with fail;refine Calls.mono qR.out ?_;rintro e w2 ⟨rfl,v2,hr2,hk2,hg2⟩;rw[List.nil_append] at hr2;have Tt:Below r w1 w2:=hk2.below (by omega) (fun x hx=>by simp[Value.ownBlock] at hx;omega);have hB2:=HB1.out.trans (Tt.mono (by have:=HRR.out;omega));have hsz2:r+1<=w2.heap.size:=by have:=Tt.size;omega
   have hBw2:=HB.out.trans (hB2.mono HB.out.size);have hlt:=iU T k;have hlm:=ah.iE B k;have abE:(ah.bitsOf k 8).length=8:=ah.aA _ _;have Br:=(show Hid _ from KR w2 (HF.out.below hBw2 DF) r (by omega) v2 (ah.bitsOf k 8) hr2 at_ k ct T (HI.out.below hB2) (fun x hx=>by
    have:=(HLT.out x.block (by rw[hx];rfl)).1;have:=HRR.out;omega) (by omega) iO.out (by omega))
   have HR2:=(show Hid _ from hr2);have HB2:=(show Hid _ from hB2);go_wp2_with fail;refine Calls.mono Br.out ?_;rintro e w3 ⟨rfl,v3,hr3,hk3,hg3⟩;have Tv:=hk3.below (by omega) (fun x hx=>HR2.out.rW x hx);have hB3:=HB2.out.trans (Tv.mono (by have:=HRR.out;omega));have abF:r+1<=w3.heap.size:=by have:=Tv.size;omega
   have hBw3:=HB.out.trans (hB3.mono HB.out.size);have HMP:=(show Hid _ from Nw w3 (HT.out.below hBw3 Tq) au k cu B (HU.out.below hB3) (by omega) r v3 (ah.bitsOf k 8++bq T k) hr3 (fun x hx hm=>by
    have h1:=(HLU.out x.block (by rw[hx];rfl)).1;have h2:=hr3.rW _ hm;have:=HRR.out;omega) (by omega) (by rw[List.length_append];omega))
   have HR3:=(show Hid _ from hr3);have HB3:=(show Hid _ from hB3);go_wp2_with fail;refine Calls.mono HMP.out ?_;rintro e w4 ⟨rfl,v4,hr4,hk4,hg4⟩;have Ye:=hk4.below (by omega) (fun x hx=>HR3.out.rW x hx);have hB4:=HB3.out.trans (Ye.mono (by have:=HRR.out;omega));have Yf:=HB.out.trans (hB4.mono HB.out.size);have WL:Hid (Calls Tryz.prog 65 #[.pointer (some ⟨r,0,none⟩)] w4 fun e w'=>e = .returned (.string ⟨(ah.pack (bQ T B k)).toArray⟩)/\w'=w4):=Jp w4 r v4 _ hr4;have K8:=(show Hid _ from Yf);obtain⟨z,hz⟩:∃ z:ByteArray,z=⟨(ah.pack (bQ T B k)).toArray⟩:=⟨_,rfl⟩;rw[<-hz] at WL;have HZ:=(show Hid _ from hz);go_wp2_with fail;refine Calls.mono WL.out ?_;rintro e w5 ⟨rfl,hw5⟩;have Yg:=hw5.symm;subst Yg;go_wp2;go_ret2;exact⟨by rw[<-HZ.out];rfl,K8.out⟩
end Go.Proofs.YtnonoiafongllaaGreatDoor
namespace Go.Proofs.YtnonoiafongllaaGreatDoor
open Go.RowKit
end Go.Proofs.YtnonoiafongllaaGreatDoor
