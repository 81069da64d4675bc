import Derived.Test.YtololnhfgjbhjaaGreatDoorMaskWinGroup
import Derived.OwnWalkIn
import Derived.TacticsInMore
import Derived.LoopNIn
import Derived.LoopIn
import Derived.RangeFuncNested
import Derived.RangeFuncBound
set_option maxRecDepth 100000
set_option maxHeartbeats 2000000
namespace Go.Proofs.YtololnhfgjbhjaaGreatDoor
open Go.RowKit
theorem ś{p:Prop}(h:p):Go.RowKit.Hid p:=h
variable {P:Program}
def roundEnd(R:World->Prop):Exit->Act->World->Prop
 | .normal,_,W=>R W
 | _,_,_=>False
def Rounds(P:Program)(gf:Nat)(lb:Array Value)(encs:Nat->Array Value)(m:Nat)(Pr:List Nat)(w:World):Prop:=
 ∀(l:Nat) (J:Nat->List Nat->World->Prop) (S0:List Nat) (W:World),Below w.heap.size w W ->
  (∀k S A,J k S A->∀b,b∈S->b<A.heap.size) ->
  (∀k S A B,J k S A->Kept [W.heap.size] A B->W.heap.size∉S->J k S B) ->
  (∀k S A,1<=k->k<m->J k S A->YieldAt Fence.wide 0 P l (encs k) A λe A'=>e = .returned (.bool true)/\∃S',J (k+1) S' A'/\Kept S A A'/\∀b,b∈S'->b∈S\/A.heap.size<=b) ->
  J 1 S0 W->(∀b,b∈S0->b∉Pr) ->
  CallsIn Fence.wide 0 P gf (#[.func (.yield l) #[] #[]]++lb) W λe W'=>(∃v,e = .returned v)/\∃S',J m S' W'
theorem Kept.put{S:List Nat}{A W:World}(h:Kept S A W)(l:Nat)(o:Obj)(hl:l∈S\/A.heap.size<=l):Kept S A (W.putObj l o):=
 h.trans (T:=[l]) ⟨rfl,rfl,rfl,by simp,λk _ hm=>World.putObj_heap_other (by simpa using hm)⟩ (λx hx=>by simp at hx;subst hx;exact hl)
theorem FM{g:Operand}{ps:Array Tmp}{assign body:Code}{Q:Exit->Act->World->Prop}{a:Act}{w:World}{gf:Nat}{lb:Array Value}
  (hg:a.eval g = .func (.func gf) #[] lb) (eg:∀args w,(callFunc gf args).run P w = .ok (.enter gf args) w)
  (m:Nat) (encs:Nat->Array Value) (Β:∀k,(encs k).size=ps.size) (Pr:List Nat) (hPr:∀b,b∈Pr->b<w.heap.size) (Ź:Rounds P gf lb encs m Pr w)
  (I:Nat->List Nat->World->Prop) (ϗ:∀k S A,I k S A->∀b,b∈S->b<A.heap.size)
  (hI:∀k S T A B,I k S A->Kept T A B->(∀b,b∈T->b∉S/\w.heap.size<=b)->I k S B)
  (S0:List Nat) (h0:I 1 S0 w) (ī:∀b,b∈S0->b∉Pr) (Fm:Nat->Obj) (a₁:Nat->Nat->Act)
  (ŕ:∀(l k:Nat) (W:World) (K:Act->World->Prop),K (a₁ k W.heap.size) (W.alloc (Fm k)) ->
   assign.wpIn (Fence.wide.inRound l) 0 P (Exit.then K (λ_ _ _=>False)) { tmps:=(ps.zip (encs k)).foldl (λt (p,v)=>t.setIfInBounds p v) a.tmps,defers:=[] } W)
  (hbody:∀(l k:Nat) (S:List Nat) (W:World) (p:Nat),1<=k->k<m->I k S W->W.heap[p]? = some (Fm k)->p∉S ->
   body.wpIn (Fence.wide.inRound l) 0 P (roundEnd λW'=>∃S',I (k+1) S' W'/\Kept S W W'/\∀b,b∈S'->b∈S\/W.heap.size<=b) (a₁ k p) W)
  (hdone:∀(D:Nat) (S:List Nat) (W:World),w.heap.size<=D->I m S W->D∉S->W.heap[D]? = some (.deferred (some []))->Q .normal { a with defers:={ target:=.collected D,args:=#[] }::a.defers } W) :
  (Code.rangeFunc g ps assign body).wp P Q a w:=by
 refine (wpIn_wide (n:=0)).1 (wpIn_rangeFunc ?_);intro fn Ϲ;obtain⟨rec,ê⟩:∃rec:LoopState->Loop,rec=λst=>{ state:=st,pending:=none,fn,tmps:=a.tmps,params:=ps,assign,body,defers:=w.heap.size }:=⟨_,rfl⟩
 obtain⟨W1,á⟩:∃W1,W1=(w.alloc (.deferred (some []))).alloc (.loop (rec .ready)):=⟨_,rfl⟩;have Õ:W1.heap.size=w.heap.size+2:=by rw[á];simp
 have hL1:W1.heap[w.heap.size+1]? = some (.loop (rec .ready)):=by
  rw[á];have:=World.alloc_heap_new (w.alloc (.deferred (some []))) (.loop (rec .ready));rwa [World.size_alloc] at this
 have ũ:W1.heap[w.heap.size]? = some (.deferred (some [])):=by
  rw[á];exact (Below.heap_alloc _ _ _ (by simp)).trans (World.alloc_heap_new w _)
 have ϒ:Kept [] w W1:=by rw[á];exact ((Kept.refl _ _).alloc _).alloc _
 have Ϗ:Below w.heap.size w W1:=by rw[á];exact ((Below.refl _ w).alloc (Nat.le_refl _) _).alloc (by simp) _
 refine⟨w.heap.size+1,[{ target:=.collected w.heap.size,args:=#[] }],W1,{ target:=.fn (.func gf) lb,args:=#[.func (.yield (w.heap.size+1)) #[] #[]] },W1,gf,
  #[.func (.yield (w.heap.size+1)) #[] #[]]++lb,W1,?_,?_,?_,?_,λh=>by simp[Fence.wide] at h,?_⟩
 ·rw[á,ê];exact run_enterLoop_outer _ _ _ _ _
 ·simp only[resolve,hg];simp[go_sem]
 ·intro f' _;trivial
 ·simp[invoke,go_sem,eg]
 ·refine CallsIn.mono (Ź (w.heap.size+1) (λk S' W=>∃S,S'=(w.heap.size+1)::S/\I k S W/\W.heap[w.heap.size+1]? = some (.loop (rec .ready))/\W.heap[w.heap.size]? = some (.deferred (some []))/\w.heap.size+1∉S/\w.heap.size∉S)
   ((w.heap.size+1)::S0) W1 Ϗ ?_ ?_ ?_ ?_ ?_) ?_
  ·rintro k S' A ⟨S,rfl,hi,hl,hd,Ρ,Ű⟩ b hb;rcases List.mem_cons.1 hb with rfl|hb
   ·exact (Array.getElem?_eq_some_iff.1 hl).1
   ·exact ϗ k S A hi b hb
  ·rintro k S' A B ⟨S,rfl,hi,hl,hd,Ρ,Ű⟩ hk hq;rw[Õ] at hk hq;have ħ:=(Array.getElem?_eq_some_iff.1 hl).1;refine⟨S,rfl,hI k S _ A B hi hk (λb hb=>?_),(hk.block _ ħ (by simp)).trans hl,(hk.block _ (by omega) (by simp)).trans hd,Ρ,Ű⟩;simp at hb;subst hb;exact⟨λh=>hq (List.mem_cons_of_mem _ h),by omega⟩
  ·rintro k S' A Pn Ď ⟨S,rfl,hi,hl,hd,Ρ,Ű⟩;have ħ:=(Array.getElem?_eq_some_iff.1 hl).1;have hy:=run_yield (P:=P) (args:=encs k) hl (by rw[ê];exact Β k);rw[ê] at hy;refine⟨fn,_,assign,body,hy,roundIn_of_wpIn Ϲ (ŕ _ k A _ ?_)⟩;clear hy;have ē:(A.alloc (Fm k)).heap[w.heap.size+1]? = some (.loop (rec .ready)):=(Below.heap_alloc _ _ _ ħ).trans hl;refine⟨_,run_beginRound ē (by rw[ê]),?_⟩;obtain⟨Ab,xB⟩:∃Ab,Ab=(A.alloc (Fm k)).putObj (w.heap.size+1) (.loop { rec .ready with state:=.busy }):=⟨_,rfl⟩;rw[<-xB];have ţ:Kept [w.heap.size+1] A Ab:=by rw[xB];exact ((Kept.refl _ _).alloc _).put _ _ (.inl (by simp))
   have hsb:Ab.heap.size=A.heap.size+1:=by rw[xB];simp
   have Ú:Ab.heap[w.heap.size+1]? = some (.loop { rec .ready with state:=.busy }):=by rw[xB];exact World.putObj_heap_same (by simp;omega)
   have hib:I k S Ab:=hI k S _ A Ab hi ţ (λb hb=>by simp at hb;subst hb;exact⟨Ρ,by omega⟩);have Ĩ:Ab.heap[A.heap.size]? = some (Fm k):=by rw[xB,World.putObj_heap_other (by omega)];exact World.alloc_heap_new _ _
   refine wpIn_mono (hbody _ k S Ab A.heap.size Pn Ď hib Ĩ (λh=>by have:=ϗ k S A hi _ h;omega)) ?_;rintro e a3 W3 hp;cases e with
   | normal=>
    obtain⟨S3,hi3,ă,hn3⟩:=hp;have hl3:=(ă.block _ (by omega) Ρ).trans Ú;have hs3:=ă.size;have afR:w.heap.size+1∉S3:=λh=>by rcases hn3 _ h with h|h;exact Ρ h;omega
    have alD:w.heap.size∉S3:=λh=>by rcases hn3 _ h with h|h;exact Ű h;omega
    refine⟨_,_,run_endRound (P:=P) none hl3,rfl,(w.heap.size+1)::S3,⟨S3,rfl,?_,?_,?_,afR,alD⟩,?_,?_⟩
    ·exact hI (k+1) S3 [w.heap.size+1] W3 _ hi3 ((Kept.refl _ _).put _ _ (.inl (by simp))) (λb hb=>by simp at hb;subst hb;exact⟨afR,by omega⟩)
    ·rw[World.putObj_heap_same (by omega),ê];rfl
    ·rw[World.putObj_heap_other (by omega),ă.block _ (by omega) Ű,ţ.block _ (by omega) (by simp)];exact hd
    ·have h1:Kept ((w.heap.size+1)::S) A Ab:=⟨ţ.os,ţ.tape,ţ.output,ţ.size,λb hb hm=>ţ.block b hb (λh=>hm (by simp at h;subst h;simp))⟩;exact (h1.trans ă (λx hx=>.inl (List.mem_cons_of_mem _ hx))).put _ _ (.inl (by simp))
    ·intro b hb;rcases List.mem_cons.1 hb with rfl|hb
     ·exact .inl (by simp)
     ·rcases hn3 b hb with h|h
      ·exact .inl (List.mem_cons_of_mem _ h)
      ·exact .inr (by omega)
   | ret=>exact hp.elim
   | exit id=>exact hp.elim
   | goto t=>exact hp.elim
   | panic ch=>exact hp.elim
   | outgrown=>exact hp.elim
  ·refine⟨S0,rfl,hI 1 S0 [] w W1 h0 ϒ (λb hb=>by cases hb),hL1,ũ,?_,?_⟩
   ·intro h;have:=ϗ 1 S0 w h0 _ h;omega
   ·intro h;have:=ϗ 1 S0 w h0 _ h;omega
  ·intro b hb hp;rcases List.mem_cons.1 hb with rfl|hb
   ·have:=hPr _ hp;omega
   ·exact ī b hb hp
  ·rintro e W2 ⟨⟨v,rfl⟩,S',S,rfl,hi,hl,hd,Ρ,Ű⟩;have ħ:=(Array.getElem?_eq_some_iff.1 hl).1;refine⟨none,_,by have:=run_endLoop (P:=P) hl (by rw[ê];simp);rw[ê] at this;exact this,hdone _ S _ (Nat.le_refl _) ?_ Ű ((World.putObj_heap_other (by omega)).trans hd)⟩;exact hI m S [w.heap.size+1] W2 _ hi ((Kept.refl _ _).put _ _ (.inl (by simp))) (λb hb=>by simp at hb;subst hb;exact⟨Ρ,by omega⟩)
open Go.Shelf
attribute [local go_sem] Oper.semAt_some
theorem Iq(la:Option Addr)(m c:Nat)(w:World):
  Calls Tryz.prog 213 #[.slice la m c] w λe w'=>e = .returned (.func (.func 239) #[] #[.pointer (some ⟨w.heap.size,0,none⟩)])/\w'=w.alloc (.cells #[.slice la m c] 216):=by
 go_enter Tryz.func213,Tryz.ntmps213;go_wp2;go_ret;exact⟨rfl,rfl⟩
def oO(V:Nat->Nat)(k:Nat):Nat:=V k ^^^ V (k-1)
def qm(V:Nat->Nat)(k:Nat):Value:=dS (aj.fK (aj.aV V k) (oO V k)) (aj.aV V (k+1)).2.1 (aj.bL (aj.aV V (k+1)))
def wS(V:Nat->Nat)(k:Nat):Array Value:=#[qm V k,.int .u64 (oO V k:Int)]
structure Jj(wr:World)(Bn lb lo m c:Nat)(V:Nat->Nat)(q k:Nat):Prop where
 box:wr.cell? ⟨Bn,0,none⟩=some (.slice (some ⟨lb,lo,none⟩) m c)
 vals:∀i,i<m->wr.cell? ⟨lb,lo+i,none⟩=some (.int .u64 (V i:Int))
 tab:Tab wr
 win:wr.heap[q]? = some (.cells #[.int .i64 ((aj.aV V k).2.1:Int),.int .i64 ((aj.bL (aj.aV V k):Nat):Int)] 261 (0,0))
theorem Jj.kept{wr wr':World}{Bn lb lo m c:Nat}{V:Nat->Nat}{q k:Nat}(h:Jj wr Bn lb lo m c V q k){S:List Nat}(hk:Kept S wr wr')(h1:Bn∉S)(h2:lb∉S)(h3:17∉S)(h4:q∉S):Jj wr' Bn lb lo m c V q k:=
 ⟨hk.cell h.box h1,λi hi=>hk.cell (h.vals i hi) h2,λj hj=>hk.cell (h.tab j hj) h3,(hk.block q (lt_of_block h.win) h4).trans h.win⟩
theorem uw(V:Nat->Nat)(n:Nat)(hV:∀i,i<n->V i<18446744073709551616):∀k,k<=n->aj.uf (aj.aV V k)
 | 0,_=>by simp[aj.aV,aj.uf]
 | k+1,h=>by
  by_cases hk:k=0
  ·subst hk;rw[aj.qb];simp[aj.uf]
  ·rw[aj.nJ V k hk];exact aj.U3 (uw V n hV k (by omega)) _ (aj.zk _ _ (hV k (by omega)) (hV (k-1) (by omega)))
theorem Az(Bn lb lo m c:Nat)(V:Nat->Nat)(w:World)(Ĥ:1<=m)(hm:m<=1000)(hV:∀i,i<m->V i<18446744073709551616)
  (Db:w.cell? ⟨Bn,0,none⟩=some (.slice (some ⟨lb,lo,none⟩) m c)) (ug:∀i,i<m->w.cell? ⟨lb,lo+i,none⟩=some (.int .u64 (V i:Int))) (hT:Tab w) :
  Rounds Tryz.prog 239 #[.pointer (some ⟨Bn,0,none⟩)] (wS V) m [Bn,lb,17] w:=by
 intro l J S0 W Ϝ aaP hJk Xd hJ0 ī;have hBn:=lt_of_cell Db;have Ú:=lt_of_cell (ug 0 Ĥ);have XY:=Ϝ.size;have Ux:W.cell? ⟨Bn,0,none⟩=some (.slice (some ⟨lb,lo,none⟩) m c):=(Ϝ.cell (p:=⟨Bn,0,none⟩) hBn).trans Db;have XZ:∀i,i<m->W.cell? ⟨lb,lo+i,none⟩=some (.int .u64 (V i:Int)):=λi hi=>(Ϝ.cell (p:=⟨lb,lo+i,none⟩) Ú).trans (ug i hi)
 have hTW:Tab W:=hT.below Ϝ hT.lt;have hG:=hT.lt;obtain⟨wa,bQ⟩:∃wa,wa=W.alloc (.cells #[.int .i64 0,.int .i64 0] 261):=⟨_,rfl⟩;have Ϯ:Kept [W.heap.size] W wa:=by rw[bQ];exact (Kept.refl _ _).alloc _
 have Ũ:wa.heap.size=W.heap.size+1:=by rw[bQ];simp
 have af4:W.heap.size∉S0:=λh=>by have:=aaP 1 S0 W hJ0 _ h;omega
 have hIt:Jj wa Bn lb lo m c V W.heap.size 1:=by
  refine⟨Ϯ.cell Ux (by simp;omega),λi hi=>Ϯ.cell (XZ i hi) (by simp;omega),λj hj=>Ϯ.cell (hTW j hj) (by simp;omega),?_⟩;rw[bQ,aj.qb];exact heap_alloc_new _ _
 have HIT:=ś hIt;have HJA:=ś (hJk 1 S0 W wa hJ0 Ϯ af4);have alF:=ś aaP;have HJk:=ś hJk;have HJy:=ś Xd;have kJ:Hid (∀wx,wx=W.alloc (.cells #[.int .i64 0,.int .i64 0] 261)->wx=wa):=λwx h=>h.trans bQ.symm
 have FX:Hid (∀b,b∈S0->b ∉ [Bn,lb,17]/\b≠W.heap.size):=λb hb=>⟨ī b hb,λe=>af4 (e ▸ hb)⟩
 have HV:=ś hV;clear hJ0 aaP hJk Xd bQ Ϯ hIt XZ ug hT hTW ī hV Db Ux;refine callsIn_of_wp Tryz.func239 rfl trivial ?_ rfl;simp only[Tryz.ntmps239,List.size_toArray,List.length_cons,List.length_nil,Nat.reduceAdd,Nat.reduceSub,Array.replicate_succ,Array.replicate_zero,List.push_toArray,List.append_toArray,List.nil_append,List.cons_append];gi_wp2;rw[kJ.out _ rfl];gi_loopw [4,5,6] (λi _ _ wr=>∃(k:Nat) (S:List Nat),1<=k/\k<=m/\i = .int .i64 k/\J k S wr/\(∀b,b∈S->b ∉ [Bn,lb,17]/\b≠W.heap.size)/\Jj wr Bn lb lo m c V W.heap.size k) (λi _ _ _=>m-(intOf i).toNat);case atStart=>exact⟨1,S0,Nat.le_refl _,Ĥ,rfl,HJA.out,FX.out,HIT.out⟩
 case round=>
  obtain⟨k,S,ϒ,Ď,rfl,hJ,Tn,hit⟩:=hrel;clear HIT HJA;have Þ:=hit.box;by_cases ϗ:k<m
  ·obtain⟨j,rfl⟩:∃j,k=j+1:=⟨k-1,by omega⟩;have é:wr.cell? ⟨lb,lo+(j+1),none⟩=some (.int .u64 (V (j+1):Int)):=hit.vals (j+1) ϗ;have ô:wr.cell? ⟨lb,lo+j,none⟩=some (.int .u64 (V j:Int)):=hit.vals j (by omega);have ñ:=HV.out (j+1) ϗ;have Â:=HV.out j (by omega);have aaQ:=u64_xor_nat (V (j+1)) (V j) ñ Â;have í:=aj.zk (V (j+1)) (V j) ñ Â;have hxe:oO V (j+1)=V (j+1) ^^^ V j:=rfl;have hwo:=uw V m HV.out (j+1) (by omega);have ϙ:=aj.nJ V (j+1) (by omega);obtain⟨x,hx⟩:∃x,x=V (j+1) ^^^ V j:=⟨_,rfl⟩;have hst':aj.aV V (j+1+1)=aj.eB (aj.aV V (j+1)) x:=by rw[ϙ,hx];rfl
   rw[<-hx] at aaQ í hxe;have þ:=λw0 hT0=>Ik (aj.aV V (j+1)) x w0 hwo í hT0
   rw[<-hst'] at þ;obtain⟨L,hL⟩:∃L,L=(aj.aV V (j+1)).2.1:=⟨_,rfl⟩;obtain⟨Wd,hWd⟩:∃Wd,Wd=aj.bL (aj.aV V (j+1)):=⟨_,rfl⟩;have Ľ:=hit.win;rw[<-hL,<-hWd] at þ Ľ;unfold kD dS at þ;have q0:wr.cell? ⟨W.heap.size,0,none⟩=some (.int .i64 (L:Int)):=ak Ľ 0;have q1:wr.cell? ⟨W.heap.size,1,none⟩=some (.int .i64 (Wd:Int)):=ak Ľ 1;have hargs:wS V (j+1)=#[.agg #[.int .i64 ((aj.fK (aj.aV V (j+1)) x:Nat):Int),.int .i64 ((aj.aV V (j+1+1)).2.1:Int),.int .i64 ((aj.bL (aj.aV V (j+1+1)):Nat):Int)],.int .u64 (x:Int)]:=by
    unfold wS qm dS;rw[hxe]
   obtain⟨y,hy0⟩:∃y,y=aj.fK (aj.aV V (j+1)) x:=⟨_,rfl⟩;obtain⟨L2,hL2⟩:∃L2,L2=(aj.aV V (j+1+1)).2.1:=⟨_,rfl⟩;obtain⟨W2,δ⟩:∃W2,W2=aj.bL (aj.aV V (j+1+1)):=⟨_,rfl⟩;rw[<-hy0,<-hL2,<-δ] at þ hargs;have HL2:=ś hL2;have HW2:=ś δ;generalize hV1:V (j+1)=V1 at *;generalize hV0:V j=V0 at *;have cO:=ś þ;have HIT:=ś hit;have HJ:=ś hJ;have Ew:=ś Tn;have af5:=ś hargs;have Jk:=ś Ľ;have hjI:(j:Int)+1<(m:Int):=by omega
   clear þ hit hJ Tn hxe Ľ ϙ hst' hwo ñ Â hx hL hWd hV1 hV0 í hy0 hL2 δ hargs;gi_wp2;refine wpIn_wide.2 ?_;go_quiet (fail);gi_wp2_with fail;refine⟨trivial,rfl,?_⟩;refine CallsIn.mono (callsIn_wide.2 (cO.out _ (λi hi=>HIT.out.tab i hi))) ?_;rintro e w1 ⟨rfl,Ϗ⟩;have Õ:wr.heap.size<=w1.heap.size:=Ϗ.size;have af6:Kept [W.heap.size] wr w1:=⟨Ϗ.os,Ϗ.tape,Ϗ.output,Ϗ.size,λb hb _=>Ϗ.block b hb⟩;obtain⟨A,hA⟩:∃A,A=w1.alloc (.cells #[.int .i64 (y:Int),.int .i64 (L2:Int),.int .i64 (W2:Int)] 264):=⟨_,rfl⟩;have hkA:Kept [W.heap.size] wr A:=by rw[hA];exact af6.alloc _
   have af7:Kept [] wr A:=by rw[hA];exact (Kept.of_below (S:=[]) (⟨Ϗ.os,Ϗ.tape,Ϗ.output,Ϗ.size,Ϗ.block⟩:Below wr.heap.size wr w1)).alloc _
   have hqS:W.heap.size∉S:=λh=>(Ew.out _ h).2 rfl
   have OT:=HJk.out _ S wr A HJ.out hkA hqS;have hpA:A.heap[w1.heap.size]? = some (.cells #[.int .i64 (y:Int),.int .i64 (L2:Int),.int .i64 (W2:Int)] 264 (0,0)):=by rw[hA];exact heap_alloc_new _ _
   have ε:A.heap.size=w1.heap.size+1:=by rw[hA];simp
   have hpS:w1.heap.size∉S:=λh=>by have:=alF.out _ S wr HJ.out _ h;omega
   obtain⟨fn,tmps,assign,body,hy,hR⟩:=HJy.out (j+1) S A ϒ ϗ OT;rw[af5.out] at hy;rw[hA] at hy;have aaR:=ś (HIT.out.kept af7 (by simp) (by simp) (by simp) (by simp));have HR:=ś hR;have E8:=ś hpA;have HHA:=ś hA;clear hR Ϗ af6 hkA af7 hpA hA OT q0 q1 ô é Þ;gi_wp2;refine⟨rfl,?_⟩;rw[<-HHA.out];refine RoundIn.mono HR.out ?_;rintro e W3 ⟨rfl,S',hJ3,ă,hS3⟩;have hqA:W.heap.size<wr.heap.size:=lt_of_block Jk.out;have aoT:=ă.size;have hp3:W3.heap[w1.heap.size]? = some (.cells #[.int .i64 (y:Int),.int .i64 (L2:Int),.int .i64 (W2:Int)] 264 (0,0)):=(ă.block _ (by omega) hpS).trans E8.out;have hit3:Jj W3 Bn lb lo m c V W.heap.size (j+1):=aaR.out.kept ă (λh=>(Ew.out _ h).1 (by simp)) (λh=>(Ew.out _ h).1 (by simp)) (λh=>(Ew.out _ h).1 (by simp)) hqS;have GV:W3.heap[W.heap.size]? = some (.cells #[.int .i64 (L:Int),.int .i64 (Wd:Int)] 261 (0,0)):=by
    have h1:=aaR.out.win;have h2:A.heap[W.heap.size]? = some (.cells #[.int .i64 (L:Int),.int .i64 (Wd:Int)] 261 (0,0)):=by
     rw[h1,<-HIT.out.win];exact Jk.out
    exact (ă.block _ (by omega) hqS).trans h2
   have p1:W3.cell? ⟨w1.heap.size,1,none⟩=some (.int .i64 (L2:Int)):=ak hp3 1;have p2:W3.cell? ⟨w1.heap.size,2,none⟩=some (.int .i64 (W2:Int)):=ak hp3 2;have z0:W3.cell? ⟨W.heap.size,0,none⟩=some (.int .i64 (L:Int)):=ak GV 0;have z1:W3.cell? ⟨W.heap.size,1,none⟩=some (.int .i64 (Wd:Int)):=ak GV 1;have y0:W3.frozen? ⟨W.heap.size,0,none⟩=false:=av GV 0;have y1:W3.frozen? ⟨W.heap.size,1,none⟩=false:=av GV 1;have alG:W.heap.size∉S':=λh=>by rcases hS3 _ h with h|h;exact hqS h;omega
   obtain⟨B,hB⟩:∃B,B=(W3.setCell ⟨W.heap.size,0,none⟩ (.int .i64 (L2:Int))).setCell ⟨W.heap.size,1,none⟩ (.int .i64 (W2:Int)):=⟨_,rfl⟩;have Ų:Kept [W.heap.size] W3 B:=by rw[hB];exact ((Kept.refl _ _).setCell (.inl (by simp)) _).setCell (.inl (by simp)) _
   have hJB:=HJk.out _ S' W3 B hJ3 Ų alG;have aga:Jj B Bn lb lo m c V W.heap.size (j+1+1):=by
    refine⟨Ų.cell hit3.box (by simp;omega),λi hi=>Ų.cell (hit3.vals i hi) (by simp;omega),λi hi=>Ų.cell (hit3.tab i hi) (by simp;omega),?_⟩;rw[hB,heap_set (heap_set GV 0 _) 1 _,HL2.out,HW2.out];rfl
   have hSB:∀b,b∈S'->b ∉ [Bn,lb,17]/\b≠W.heap.size:=by
    intro b hb;rcases hS3 b hb with h|h
    ·exact Ew.out b h
    ·refine⟨?_,by omega⟩;simp
     omega
   have HHB:=ś hB;have Ir:=ś hJB;have alH:=ś aga;have Iu:=ś hSB;clear hp3 hit3 GV hJ3 ă hS3 Ų hJB aga hSB hB E8 HR aaR Jk HIT HJ af5 hy cO;gi_wp2;go_roundw;case rel=>rw[<-HHB.out];exact⟨j+1+1,S',by omega,by omega,by go_num,Ir.out,Iu.out,alH.out⟩
   case measure=>simp[intOf];omega
  ·have:k=m:=by omega
   subst this;have HJ:=ś hJ;clear hJ hit Tn;gi_wp2;go_end0;exact⟨⟨_,rfl⟩,S,HJ.out⟩
end Go.Proofs.YtololnhfgjbhjaaGreatDoor
