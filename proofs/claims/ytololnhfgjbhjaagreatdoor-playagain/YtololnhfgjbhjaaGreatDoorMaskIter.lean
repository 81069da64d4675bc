import Derived.Test.YtololnhfgjbhjaaGreatDoorMaskWinGroup
import Derived.OwnWalkIn
import Derived.TacticsInMore
import Derived.LoopNIn
import Derived.LoopIn
import Derived.RangeFuncNested
import Derived.RangeFuncBound
set_option maxRecDepth 100000
set_option maxHeartbeats 2000000
namespace Go.Proofs.YtololnhfgjbhjaaGreatDoor
open Go.RowKit
theorem š{p:Prop}(h:p):Go.RowKit.Hid p:=h
variable {P:Program}
def roundEnd(R:World->Prop):Exit->Act->World->Prop
 | .normal,_,W=>R W
 | _,_,_=>False
def Rounds(P:Program)(gf:Nat)(lb:Array Value)(encs:Nat->Array Value)(m:Nat)(Pr:List Nat)(w:World):Prop:=
 ∀(l:Nat) (J:Nat->List Nat->World->Prop) (S0:List Nat) (W:World),Below w.heap.size w W ->
  (∀k S A,J k S A->∀b,b∈S->b<A.heap.size) ->
  (∀k S A B,J k S A->Kept [W.heap.size] A B->W.heap.size∉S->J k S B) ->
  (∀k S A,1<=k->k<m->J k S A->YieldAt Fence.wide 0 P l (encs k) A λe A'=>e = .returned (.bool true)/\∃S',J (k+1) S' A'/\Kept S A A'/\∀b,b∈S'->b∈S\/A.heap.size<=b) ->
  J 1 S0 W->(∀b,b∈S0->b∉Pr) ->
  CallsIn Fence.wide 0 P gf (#[.func (.yield l) #[] #[]]++lb) W λe W'=>(∃v,e = .returned v)/\∃S',J m S' W'
theorem Kept.put{S:List Nat}{A W:World}(h:Kept S A W)(l:Nat)(o:Obj)(hl:l∈S\/A.heap.size<=l):Kept S A (W.putObj l o):=
 h.trans (T:=[l]) ⟨rfl,rfl,rfl,by simp,λk _ hm=>World.putObj_heap_other (by simpa using hm)⟩ (λx hx=>by simp at hx;subst hx;exact hl)
theorem Fu{g:Operand}{ps:Array Tmp}{assign body:Code}{Q:Exit->Act->World->Prop}{a:Act}{w:World}{gf:Nat}{lb:Array Value}
  (hg:a.eval g = .func (.func gf) #[] lb) (eg:∀args w,(callFunc gf args).run P w = .ok (.enter gf args) w)
  (m:Nat) (encs:Nat->Array Value) (χ:∀k,(encs k).size=ps.size) (Pr:List Nat) (hPr:∀b,b∈Pr->b<w.heap.size) (ź:Rounds P gf lb encs m Pr w)
  (I:Nat->List Nat->World->Prop) (ϙ:∀k S A,I k S A->∀b,b∈S->b<A.heap.size)
  (hI:∀k S T A B,I k S A->Kept T A B->(∀b,b∈T->b∉S/\w.heap.size<=b)->I k S B)
  (S0:List Nat) (h0:I 1 S0 w) (ŗ:∀b,b∈S0->b∉Pr) (Fm:Nat->Obj) (a₁:Nat->Nat->Act)
  (œ:∀(l k:Nat) (W:World) (K:Act->World->Prop),K (a₁ k W.heap.size) (W.alloc (Fm k)) ->
   assign.wpIn (Fence.wide.inRound l) 0 P (Exit.then K (λ_ _ _=>False)) { tmps:=(ps.zip (encs k)).foldl (λt (p,v)=>t.setIfInBounds p v) a.tmps,defers:=[] } W)
  (hbody:∀(l k:Nat) (S:List Nat) (W:World) (p:Nat),1<=k->k<m->I k S W->W.heap[p]? = some (Fm k)->p∉S ->
   body.wpIn (Fence.wide.inRound l) 0 P (roundEnd λW'=>∃S',I (k+1) S' W'/\Kept S W W'/\∀b,b∈S'->b∈S\/W.heap.size<=b) (a₁ k p) W)
  (hdone:∀(D:Nat) (S:List Nat) (W:World),w.heap.size<=D->I m S W->D∉S->W.heap[D]? = some (.deferred (some []))->Q .normal { a with defers:={ target:=.collected D,args:=#[] }::a.defers } W) :
  (Code.rangeFunc g ps assign body).wp P Q a w:=by
 refine (wpIn_wide (n:=0)).1 (wpIn_rangeFunc ?_);intro fn ϴ;obtain⟨rec,æ⟩:∃rec:LoopState->Loop,rec=λst=>{ state:=st,pending:=none,fn,tmps:=a.tmps,params:=ps,assign,body,defers:=w.heap.size }:=⟨_,rfl⟩
 obtain⟨W1,à⟩:∃W1,W1=(w.alloc (.deferred (some []))).alloc (.loop (rec .ready)):=⟨_,rfl⟩;have Ù:W1.heap.size=w.heap.size+2:=by rw[à];simp
 have hL1:W1.heap[w.heap.size+1]? = some (.loop (rec .ready)):=by
  rw[à];have:=World.alloc_heap_new (w.alloc (.deferred (some []))) (.loop (rec .ready));rwa [World.size_alloc] at this
 have Ũ:W1.heap[w.heap.size]? = some (.deferred (some [])):=by
  rw[à];exact (Below.heap_alloc _ _ _ (by simp)).trans (World.alloc_heap_new w _)
 have ϒ:Kept [] w W1:=by rw[à];exact ((Kept.refl _ _).alloc _).alloc _
 have Ϗ:Below w.heap.size w W1:=by rw[à];exact ((Below.refl _ w).alloc (Nat.le_refl _) _).alloc (by simp) _
 refine⟨w.heap.size+1,[{ target:=.collected w.heap.size,args:=#[] }],W1,{ target:=.fn (.func gf) lb,args:=#[.func (.yield (w.heap.size+1)) #[] #[]] },W1,gf,
  #[.func (.yield (w.heap.size+1)) #[] #[]]++lb,W1,?_,?_,?_,?_,λh=>by simp[Fence.wide] at h,?_⟩
 ·rw[à,æ];exact run_enterLoop_outer _ _ _ _ _
 ·simp only[resolve,hg];simp[go_sem]
 ·intro f' _;trivial
 ·simp[invoke,go_sem,eg]
 ·refine CallsIn.mono (ź (w.heap.size+1) (λk S' W=>∃S,S'=(w.heap.size+1)::S/\I k S W/\W.heap[w.heap.size+1]? = some (.loop (rec .ready))/\W.heap[w.heap.size]? = some (.deferred (some []))/\w.heap.size+1∉S/\w.heap.size∉S)
   ((w.heap.size+1)::S0) W1 Ϗ ?_ ?_ ?_ ?_ ?_) ?_
  ·rintro k S' A ⟨S,rfl,hi,hl,hd,Ů,ű⟩ b hb;rcases List.mem_cons.1 hb with rfl|hb
   ·exact (Array.getElem?_eq_some_iff.1 hl).1
   ·exact ϙ k S A hi b hb
  ·rintro k S' A B ⟨S,rfl,hi,hl,hd,Ů,ű⟩ hk hq;rw[Ù] at hk hq;have ĥ:=(Array.getElem?_eq_some_iff.1 hl).1;refine⟨S,rfl,hI k S _ A B hi hk (λb hb=>?_),(hk.block _ ĥ (by simp)).trans hl,(hk.block _ (by omega) (by simp)).trans hd,Ů,ű⟩;simp at hb;subst hb;exact⟨λh=>hq (List.mem_cons_of_mem _ h),by omega⟩
  ·rintro k S' A Po ù ⟨S,rfl,hi,hl,hd,Ů,ű⟩;have ĥ:=(Array.getElem?_eq_some_iff.1 hl).1;have hy:=run_yield (P:=P) (args:=encs k) hl (by rw[æ];exact χ k);rw[æ] at hy;refine⟨fn,_,assign,body,hy,roundIn_of_wpIn ϴ (œ _ k A _ ?_)⟩;clear hy;have ĳ:(A.alloc (Fm k)).heap[w.heap.size+1]? = some (.loop (rec .ready)):=(Below.heap_alloc _ _ _ ĥ).trans hl;refine⟨_,run_beginRound ĳ (by rw[æ]),?_⟩;obtain⟨Ab,wY⟩:∃Ab,Ab=(A.alloc (Fm k)).putObj (w.heap.size+1) (.loop { rec .ready with state:=.busy }):=⟨_,rfl⟩;rw[<-wY];have hkb:Kept [w.heap.size+1] A Ab:=by rw[wY];exact ((Kept.refl _ _).alloc _).put _ _ (.inl (by simp))
   have hsb:Ab.heap.size=A.heap.size+1:=by rw[wY];simp
   have Ø:Ab.heap[w.heap.size+1]? = some (.loop { rec .ready with state:=.busy }):=by rw[wY];exact World.putObj_heap_same (by simp;omega)
   have hib:I k S Ab:=hI k S _ A Ab hi hkb (λb hb=>by simp at hb;subst hb;exact⟨Ů,by omega⟩);have ñ:Ab.heap[A.heap.size]? = some (Fm k):=by rw[wY,World.putObj_heap_other (by omega)];exact World.alloc_heap_new _ _
   refine wpIn_mono (hbody _ k S Ab A.heap.size Po ù hib ñ (λh=>by have:=ϙ k S A hi _ h;omega)) ?_;rintro e a3 W3 hp;cases e with
   | normal=>
    obtain⟨S3,hi3,ï,hn3⟩:=hp;have hl3:=(ï.block _ (by omega) Ů).trans Ø;have Ω:=ï.size;have afx:w.heap.size+1∉S3:=λh=>by rcases hn3 _ h with h|h;exact Ů h;omega
    have alx:w.heap.size∉S3:=λh=>by rcases hn3 _ h with h|h;exact ű h;omega
    refine⟨_,_,run_endRound (P:=P) none hl3,rfl,(w.heap.size+1)::S3,⟨S3,rfl,?_,?_,?_,afx,alx⟩,?_,?_⟩
    ·exact hI (k+1) S3 [w.heap.size+1] W3 _ hi3 ((Kept.refl _ _).put _ _ (.inl (by simp))) (λb hb=>by simp at hb;subst hb;exact⟨afx,by omega⟩)
    ·rw[World.putObj_heap_same (by omega),æ];rfl
    ·rw[World.putObj_heap_other (by omega),ï.block _ (by omega) ű,hkb.block _ (by omega) (by simp)];exact hd
    ·have h1:Kept ((w.heap.size+1)::S) A Ab:=⟨hkb.os,hkb.tape,hkb.output,hkb.size,λb hb hm=>hkb.block b hb (λh=>hm (by simp at h;subst h;simp))⟩;exact (h1.trans ï (λx hx=>.inl (List.mem_cons_of_mem _ hx))).put _ _ (.inl (by simp))
    ·intro b hb;rcases List.mem_cons.1 hb with rfl|hb
     ·exact .inl (by simp)
     ·rcases hn3 b hb with h|h
      ·exact .inl (List.mem_cons_of_mem _ h)
      ·exact .inr (by omega)
   | ret=>exact hp.elim
   | exit id=>exact hp.elim
   | goto t=>exact hp.elim
   | panic ch=>exact hp.elim
   | outgrown=>exact hp.elim
  ·refine⟨S0,rfl,hI 1 S0 [] w W1 h0 ϒ (λb hb=>by cases hb),hL1,Ũ,?_,?_⟩
   ·intro h;have:=ϙ 1 S0 w h0 _ h;omega
   ·intro h;have:=ϙ 1 S0 w h0 _ h;omega
  ·intro b hb hp;rcases List.mem_cons.1 hb with rfl|hb
   ·have:=hPr _ hp;omega
   ·exact ŗ b hb hp
  ·rintro e W2 ⟨⟨v,rfl⟩,S',S,rfl,hi,hl,hd,Ů,ű⟩;have ĥ:=(Array.getElem?_eq_some_iff.1 hl).1;refine⟨none,_,by have:=run_endLoop (P:=P) hl (by rw[æ];simp);rw[æ] at this;exact this,hdone _ S _ (Nat.le_refl _) ?_ ű ((World.putObj_heap_other (by omega)).trans hd)⟩;exact hI m S [w.heap.size+1] W2 _ hi ((Kept.refl _ _).put _ _ (.inl (by simp))) (λb hb=>by simp at hb;subst hb;exact⟨Ů,by omega⟩)
open Go.Shelf
attribute [local go_sem] Oper.semAt_some
theorem Hu(la:Option Addr)(m c:Nat)(w:World):
  Calls Tryz.prog 213 #[.slice la m c] w λe w'=>e = .returned (.func (.func 239) #[] #[.pointer (some ⟨w.heap.size,0,none⟩)])/\w'=w.alloc (.cells #[.slice la m c] 216):=by
 go_enter Tryz.func213,Tryz.ntmps213;go_wp2;go_ret;exact⟨rfl,rfl⟩
def oL(V:Nat->Nat)(k:Nat):Nat:=V k ^^^ V (k-1)
def qc(V:Nat->Nat)(k:Nat):Value:=dR (aj.fu (aj.aX V k) (oL V k)) (aj.aX V (k+1)).2.1 (aj.bJ (aj.aX V (k+1)))
def wI(V:Nat->Nat)(k:Nat):Array Value:=#[qc V k,.int .u64 (oL V k:Int)]
structure IY(wr:World)(Bn lb lo m c:Nat)(V:Nat->Nat)(q k:Nat):Prop where
 box:wr.cell? ⟨Bn,0,none⟩=some (.slice (some ⟨lb,lo,none⟩) m c)
 vals:∀i,i<m->wr.cell? ⟨lb,lo+i,none⟩=some (.int .u64 (V i:Int))
 tab:Tab wr
 win:wr.heap[q]? = some (.cells #[.int .i64 ((aj.aX V k).2.1:Int),.int .i64 ((aj.bJ (aj.aX V k):Nat):Int)] 261 (0,0))
theorem IY.kept{wr wr':World}{Bn lb lo m c:Nat}{V:Nat->Nat}{q k:Nat}(h:IY wr Bn lb lo m c V q k){S:List Nat}(hk:Kept S wr wr')(h1:Bn∉S)(h2:lb∉S)(h3:17∉S)(h4:q∉S):IY wr' Bn lb lo m c V q k:=
 ⟨hk.cell h.box h1,λi hi=>hk.cell (h.vals i hi) h2,λj hj=>hk.cell (h.tab j hj) h3,(hk.block q (lt_of_block h.win) h4).trans h.win⟩
theorem tL(V:Nat->Nat)(n:Nat)(hV:∀i,i<n->V i<18446744073709551616):∀k,k<=n->aj.tq (aj.aX V k)
 | 0,_=>by simp[aj.aX,aj.tq]
 | k+1,h=>by
  by_cases hk:k=0
  ·subst hk;rw[aj.pV];simp[aj.tq]
  ·rw[aj.ng V k hk];exact aj.U0 (tL V n hV k (by omega)) _ (aj.zi _ _ (hV k (by omega)) (hV (k-1) (by omega)))
theorem Ap(Bn lb lo m c:Nat)(V:Nat->Nat)(w:World)(ħ:1<=m)(hm:m<=1000)(hV:∀i,i<m->V i<18446744073709551616)
  (CO:w.cell? ⟨Bn,0,none⟩=some (.slice (some ⟨lb,lo,none⟩) m c)) (tu:∀i,i<m->w.cell? ⟨lb,lo+i,none⟩=some (.int .u64 (V i:Int))) (hT:Tab w) :
  Rounds Tryz.prog 239 #[.pointer (some ⟨Bn,0,none⟩)] (wI V) m [Bn,lb,17] w:=by
 intro l J S0 W Ϛ aaG hJk WW hJ0 ŗ;have hBn:=lt_of_cell CO;have Ø:=lt_of_cell (tu 0 ħ);have XM:=Ϛ.size;have Uv:W.cell? ⟨Bn,0,none⟩=some (.slice (some ⟨lb,lo,none⟩) m c):=(Ϛ.cell (p:=⟨Bn,0,none⟩) hBn).trans CO;have XO:∀i,i<m->W.cell? ⟨lb,lo+i,none⟩=some (.int .u64 (V i:Int)):=λi hi=>(Ϛ.cell (p:=⟨lb,lo+i,none⟩) Ø).trans (tu i hi)
 have hTW:Tab W:=hT.below Ϛ hT.lt;have hG:=hT.lt;obtain⟨wa,bP⟩:∃wa,wa=W.alloc (.cells #[.int .i64 0,.int .i64 0] 261):=⟨_,rfl⟩;have ϭ:Kept [W.heap.size] W wa:=by rw[bP];exact (Kept.refl _ _).alloc _
 have ŧ:wa.heap.size=W.heap.size+1:=by rw[bP];simp
 have afJ:W.heap.size∉S0:=λh=>by have:=aaG 1 S0 W hJ0 _ h;omega
 have hIt:IY wa Bn lb lo m c V W.heap.size 1:=by
  refine⟨ϭ.cell Uv (by simp;omega),λi hi=>ϭ.cell (XO i hi) (by simp;omega),λj hj=>ϭ.cell (hTW j hj) (by simp;omega),?_⟩;rw[bP,aj.pV];exact heap_alloc_new _ _
 have HIT:=š hIt;have HJA:=š (hJk 1 S0 W wa hJ0 ϭ afJ);have alz:=š aaG;have HJk:=š hJk;have HJy:=š WW;have kT:Hid (∀wx,wx=W.alloc (.cells #[.int .i64 0,.int .i64 0] 261)->wx=wa):=λwx h=>h.trans bP.symm
 have FH:Hid (∀b,b∈S0->b ∉ [Bn,lb,17]/\b≠W.heap.size):=λb hb=>⟨ŗ b hb,λe=>afJ (e ▸ hb)⟩
 have HV:=š hV;clear hJ0 aaG hJk WW bP ϭ hIt XO tu hT hTW ŗ hV CO Uv;refine callsIn_of_wp Tryz.func239 rfl trivial ?_ rfl;simp only[Tryz.ntmps239,List.size_toArray,List.length_cons,List.length_nil,Nat.reduceAdd,Nat.reduceSub,Array.replicate_succ,Array.replicate_zero,List.push_toArray,List.append_toArray,List.nil_append,List.cons_append];gi_wp2;rw[kT.out _ rfl];gi_loopw [4,5,6] (λi _ _ wr=>∃(k:Nat) (S:List Nat),1<=k/\k<=m/\i = .int .i64 k/\J k S wr/\(∀b,b∈S->b ∉ [Bn,lb,17]/\b≠W.heap.size)/\IY wr Bn lb lo m c V W.heap.size k) (λi _ _ _=>m-(intOf i).toNat);case atStart=>exact⟨1,S0,Nat.le_refl _,ħ,rfl,HJA.out,FH.out,HIT.out⟩
 case round=>
  obtain⟨k,S,ϒ,ù,rfl,hJ,Tk,hit⟩:=hrel;clear HIT HJA;have É:=hit.box;by_cases ϙ:k<m
  ·obtain⟨j,rfl⟩:∃j,k=j+1:=⟨k-1,by omega⟩;have å:wr.cell? ⟨lb,lo+(j+1),none⟩=some (.int .u64 (V (j+1):Int)):=hit.vals (j+1) ϙ;have ò:wr.cell? ⟨lb,lo+j,none⟩=some (.int .u64 (V j:Int)):=hit.vals j (by omega);have ĝ:=HV.out (j+1) ϙ;have À:=HV.out j (by omega);have aaH:=u64_xor_nat (V (j+1)) (V j) ĝ À;have ç:=aj.zi (V (j+1)) (V j) ĝ À;have hxe:oL V (j+1)=V (j+1) ^^^ V j:=rfl;have hwo:=tL V m HV.out (j+1) (by omega);have ϔ:=aj.ng V (j+1) (by omega);obtain⟨x,hx⟩:∃x,x=V (j+1) ^^^ V j:=⟨_,rfl⟩;have hst':aj.aX V (j+1+1)=aj.eu (aj.aX V (j+1)) x:=by rw[ϔ,hx];rfl
   rw[<-hx] at aaH ç hxe;have þ:=λw0 hT0=>Hl (aj.aX V (j+1)) x w0 hwo ç hT0
   rw[<-hst'] at þ;obtain⟨L,hL⟩:∃L,L=(aj.aX V (j+1)).2.1:=⟨_,rfl⟩;obtain⟨Wd,hWd⟩:∃Wd,Wd=aj.bJ (aj.aX V (j+1)):=⟨_,rfl⟩;have ķ:=hit.win;rw[<-hL,<-hWd] at þ ķ;unfold jV dR at þ;have q0:wr.cell? ⟨W.heap.size,0,none⟩=some (.int .i64 (L:Int)):=ak ķ 0;have q1:wr.cell? ⟨W.heap.size,1,none⟩=some (.int .i64 (Wd:Int)):=ak ķ 1;have hargs:wI V (j+1)=#[.agg #[.int .i64 ((aj.fu (aj.aX V (j+1)) x:Nat):Int),.int .i64 ((aj.aX V (j+1+1)).2.1:Int),.int .i64 ((aj.bJ (aj.aX V (j+1+1)):Nat):Int)],.int .u64 (x:Int)]:=by
    unfold wI qc dR;rw[hxe]
   obtain⟨y,hy0⟩:∃y,y=aj.fu (aj.aX V (j+1)) x:=⟨_,rfl⟩;obtain⟨L2,hL2⟩:∃L2,L2=(aj.aX V (j+1+1)).2.1:=⟨_,rfl⟩;obtain⟨W2,δ⟩:∃W2,W2=aj.bJ (aj.aX V (j+1+1)):=⟨_,rfl⟩;rw[<-hy0,<-hL2,<-δ] at þ hargs;have HL2:=š hL2;have HW2:=š δ;generalize hV1:V (j+1)=V1 at *;generalize hV0:V j=V0 at *;have bZ:=š þ;have HIT:=š hit;have HJ:=š hJ;have XP:=š Tk;have afK:=š hargs;have IZ:=š ķ;have hjI:(j:Int)+1<(m:Int):=by omega
   clear þ hit hJ Tk hxe ķ ϔ hst' hwo ĝ À hx hL hWd hV1 hV0 ç hy0 hL2 δ hargs;gi_wp2;refine wpIn_wide.2 ?_;go_quiet (fail);gi_wp2_with fail;refine⟨trivial,rfl,?_⟩;refine CallsIn.mono (callsIn_wide.2 (bZ.out _ (λi hi=>HIT.out.tab i hi))) ?_;rintro e w1 ⟨rfl,Ϗ⟩;have Ù:wr.heap.size<=w1.heap.size:=Ϗ.size;have afL:Kept [W.heap.size] wr w1:=⟨Ϗ.os,Ϗ.tape,Ϗ.output,Ϗ.size,λb hb _=>Ϗ.block b hb⟩;obtain⟨A,hA⟩:∃A,A=w1.alloc (.cells #[.int .i64 (y:Int),.int .i64 (L2:Int),.int .i64 (W2:Int)] 264):=⟨_,rfl⟩;have ME:Kept [W.heap.size] wr A:=by rw[hA];exact afL.alloc _
   have afM:Kept [] wr A:=by rw[hA];exact (Kept.of_below (S:=[]) (⟨Ϗ.os,Ϗ.tape,Ϗ.output,Ϗ.size,Ϗ.block⟩:Below wr.heap.size wr w1)).alloc _
   have hqS:W.heap.size∉S:=λh=>(XP.out _ h).2 rfl
   have OP:=HJk.out _ S wr A HJ.out ME hqS;have J2:A.heap[w1.heap.size]? = some (.cells #[.int .i64 (y:Int),.int .i64 (L2:Int),.int .i64 (W2:Int)] 264 (0,0)):=by rw[hA];exact heap_alloc_new _ _
   have ε:A.heap.size=w1.heap.size+1:=by rw[hA];simp
   have hpS:w1.heap.size∉S:=λh=>by have:=alz.out _ S wr HJ.out _ h;omega
   obtain⟨fn,tmps,assign,body,hy,hR⟩:=HJy.out (j+1) S A ϒ ϙ OP;rw[afK.out] at hy;rw[hA] at hy;have aaI:=š (HIT.out.kept afM (by simp) (by simp) (by simp) (by simp));have HR:=š hR;have EH:=š J2;have HHA:=š hA;clear hR Ϗ afL ME afM J2 hA OP q0 q1 ò å É;gi_wp2;refine⟨rfl,?_⟩;rw[<-HHA.out];refine RoundIn.mono HR.out ?_;rintro e W3 ⟨rfl,S',hJ3,ï,hS3⟩;have hqA:W.heap.size<wr.heap.size:=lt_of_block IZ.out;have aoV:=ï.size;have hp3:W3.heap[w1.heap.size]? = some (.cells #[.int .i64 (y:Int),.int .i64 (L2:Int),.int .i64 (W2:Int)] 264 (0,0)):=(ï.block _ (by omega) hpS).trans EH.out;have hit3:IY W3 Bn lb lo m c V W.heap.size (j+1):=aaI.out.kept ï (λh=>(XP.out _ h).1 (by simp)) (λh=>(XP.out _ h).1 (by simp)) (λh=>(XP.out _ h).1 (by simp)) hqS;have Gq:W3.heap[W.heap.size]? = some (.cells #[.int .i64 (L:Int),.int .i64 (Wd:Int)] 261 (0,0)):=by
    have h1:=aaI.out.win;have h2:A.heap[W.heap.size]? = some (.cells #[.int .i64 (L:Int),.int .i64 (Wd:Int)] 261 (0,0)):=by
     rw[h1,<-HIT.out.win];exact IZ.out
    exact (ï.block _ (by omega) hqS).trans h2
   have p1:W3.cell? ⟨w1.heap.size,1,none⟩=some (.int .i64 (L2:Int)):=ak hp3 1;have p2:W3.cell? ⟨w1.heap.size,2,none⟩=some (.int .i64 (W2:Int)):=ak hp3 2;have z0:W3.cell? ⟨W.heap.size,0,none⟩=some (.int .i64 (L:Int)):=ak Gq 0;have z1:W3.cell? ⟨W.heap.size,1,none⟩=some (.int .i64 (Wd:Int)):=ak Gq 1;have y0:W3.frozen? ⟨W.heap.size,0,none⟩=false:=aA Gq 0;have y1:W3.frozen? ⟨W.heap.size,1,none⟩=false:=aA Gq 1;have alA:W.heap.size∉S':=λh=>by rcases hS3 _ h with h|h;exact hqS h;omega
   obtain⟨B,hB⟩:∃B,B=(W3.setCell ⟨W.heap.size,0,none⟩ (.int .i64 (L2:Int))).setCell ⟨W.heap.size,1,none⟩ (.int .i64 (W2:Int)):=⟨_,rfl⟩;have ζ:Kept [W.heap.size] W3 B:=by rw[hB];exact ((Kept.refl _ _).setCell (.inl (by simp)) _).setCell (.inl (by simp)) _
   have hJB:=HJk.out _ S' W3 B hJ3 ζ alA;have afP:IY B Bn lb lo m c V W.heap.size (j+1+1):=by
    refine⟨ζ.cell hit3.box (by simp;omega),λi hi=>ζ.cell (hit3.vals i hi) (by simp;omega),λi hi=>ζ.cell (hit3.tab i hi) (by simp;omega),?_⟩;rw[hB,heap_set (heap_set Gq 0 _) 1 _,HL2.out,HW2.out];rfl
   have hSB:∀b,b∈S'->b ∉ [Bn,lb,17]/\b≠W.heap.size:=by
    intro b hb;rcases hS3 b hb with h|h
    ·exact XP.out b h
    ·refine⟨?_,by omega⟩;simp
     omega
   have HHB:=š hB;have Hw:=š hJB;have alB:=š afP;have BS:=š hSB;clear hp3 hit3 Gq hJ3 ï hS3 ζ hJB afP hSB hB EH HR aaI IZ HIT HJ afK hy bZ;gi_wp2;go_roundw;case rel=>rw[<-HHB.out];exact⟨j+1+1,S',by omega,by omega,by go_num,Hw.out,BS.out,alB.out⟩
   case measure=>simp[intOf];omega
  ·have:k=m:=by omega
   subst this;have HJ:=š hJ;clear hJ hit Tk;gi_wp2;go_end0;exact⟨⟨_,rfl⟩,S,HJ.out⟩
end Go.Proofs.YtololnhfgjbhjaaGreatDoor
