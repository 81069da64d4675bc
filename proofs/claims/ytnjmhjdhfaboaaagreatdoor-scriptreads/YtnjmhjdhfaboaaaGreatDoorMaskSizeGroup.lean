import Derived.Shelf.RegionOpen
import Derived.Test.YtnjmhjdhfaboaaaGreatDoorMaskWinGroup
import Derived.OwnWalkIn
import Derived.LoopNIn
import Derived.LoopIn
import Derived.RangeFuncNested
import Derived.RangeFuncBound
set_option maxRecDepth 1000000
set_option maxHeartbeats 4000000
open Nat (le_refl lt_or_ge zero_le)
open List
open Go.Proofs.Tryz
namespace Go.Proofs.YtnjmhjdhfaboaaaGreatDoor
open Go.RowKit
theorem ϟ{p:Prop}(h:p):Go.RowKit.Hid p:=h
variable {P:Program}
def roundEnd(R:World->Prop):Exit->Act->World->Prop
 | .normal,_,W=>R W
 | _,_,_=>False
def Rounds(P:Program)(gf:Nat)(lb:Array Value)(encs:Nat->Array Value)(m:Nat)(Pr:List Nat)(w:World):Prop:=
 ∀(l:Nat) (J:Nat->List Nat->World->Prop) (S0:List Nat) (W:World),Below w.heap.size w W ->
  (∀k S A,J k S A->∀b,b∈S->b<A.heap.size) ->
  (∀k S A B,J k S A->Kept [W.heap.size] A B->W.heap.size∉S->J k S B) ->
  (∀k S A,1<=k->k<m->J k S A->YieldAt Fence.wide 0 P l (encs k) A λe A'=>e = .returned (.bool true)/\∃S',J (k+1) S' A'/\Kept S A A'/\∀b,b∈S'->b∈S\/A.heap.size<=b) ->
  J 1 S0 W->(∀b,b∈S0->b∉Pr) ->
  CallsIn Fence.wide 0 P gf (#[.func (.yield l) #[] #[]]++lb) W λe W'=>(∃v,e = .returned v)/\∃S',J m S' W'
theorem Kept.put{S:List Nat}{A W:World}(h:Kept S A W)(l:Nat)(o:Obj)(z:l∈S\/A.heap.size<=l):Kept S A (W.putObj l o):=
 h.trans (T:=[l]) ⟨rfl,rfl,rfl,vI,λk _ D=>World.putObj_heap_other (by simpa using D)⟩ (λx q=>by simp at q;subst q;exact z)
theorem FT{g:Operand}{ps:Array Tmp}{assign body:Code}{Q:Exit->Act->World->Prop}{a:Act}{w:World}{gf:Nat}{lb:Array Value}
  (hg:a.eval g = .func (.func gf) #[] lb) (eg:∀args w,(callFunc gf args).run P w = .ok (.enter gf args) w)
  (m:Nat) (z:Nat->Array Value) (π:∀k,(z k).size=ps.size) (Pr:List Nat) (hPr:∀b,b∈Pr->b<w.heap.size) (ŵ:Rounds P gf lb z m Pr w)
  (I:Nat->List Nat->World->Prop) (ϗ:∀k S A,I k S A->∀b,b∈S->b<A.heap.size)
  (hI:∀k S T A B,I k S A->Kept T A B->(∀b,b∈T->b∉S/\w.heap.size<=b)->I k S B)
  (S0:List Nat) (h0:I 1 S0 w) (ĝ:∀b,b∈S0->b∉Pr) (Fm:Nat->Obj) (O:Nat->Nat->Act)
  (ň:∀(l k:Nat) (W:World) (K:Act->World->Prop),K (O k W.heap.size) (W.alloc (Fm k)) ->
   assign.wpIn (Fence.wide.inRound l) 0 P (Exit.then K (λ_ _ _=>False)) { tmps:=(ps.zip (z k)).foldl (λt (p,v)=>t.setIfInBounds p v) a.tmps,defers:=[] } W)
  (hbody:∀(l k:Nat) (S:List Nat) (W:World) (p:Nat),1<=k->k<m->I k S W->W.heap[p]? = some (Fm k)->p∉S ->
   body.wpIn (Fence.wide.inRound l) 0 P (roundEnd λW'=>∃J,I (k+1) J W'/\Kept S W W'/\∀b,b∈J->b∈S\/W.heap.size<=b) (O k p) W)
  (hdone:∀(D:Nat) (S:List Nat) (W:World),w.heap.size<=D->I m S W->D∉S->W.heap[D]? = some (.deferred (some []))->Q .normal { a with defers:={ target:=.collected D,args:=#[] }::a.defers } W) :
  (Code.rangeFunc g ps assign body).wp P Q a w:=by
 refine (wpIn_wide (n:=0)).1 (wpIn_rangeFunc ?_);intro fn ľ;obtain⟨q,Z⟩:∃q:LoopState->Loop,q=λst=>{ state:=st,pending:=none,fn,tmps:=a.tmps,params:=ps,assign,body,defers:=w.heap.size }:=⟨_,rfl⟩
 obtain⟨G,â⟩:=dM ((w.alloc (.deferred (some []))).alloc (.loop (q .ready)));have Ö:G.heap.size=w.heap.size+2:=by rw[â];simp
 have hL1:G.heap[w.heap.size+1]? = some (.loop (q .ready)):=by
  rw[â];have:=World.alloc_heap_new (w.alloc (.deferred (some []))) (.loop (q .ready));rwa [World.size_alloc] at this
 have Ē:G.heap[w.heap.size]? = some (.deferred (some [])):=by
  rw[â];exact (Below.heap_alloc _ _ _ vI).trans (World.alloc_heap_new w _)
 have ϓ:Kept [] w G:=by rw[â];exact ((Kept.refl _ _).alloc _).alloc _
 have ώ:Below w.heap.size w G:=by rw[â];exact ((Below.refl _ w).alloc (le_refl _) _).alloc vI _
 refine⟨w.heap.size+1,[{ target:=.collected w.heap.size,args:=#[] }],G,{ target:=.fn (.func gf) lb,args:=#[.func (.yield (w.heap.size+1)) #[] #[]] },G,gf,
  #[.func (.yield (w.heap.size+1)) #[] #[]]++lb,G,?_,?_,?_,?_,λh=>by simp[Fence.wide] at h,?_⟩
 ·rw[â,Z];exact run_enterLoop_outer _ _ _ _ _
 ·simp only[resolve,hg];simp[go_sem]
 ·intro f' _;trivial
 ·simp[invoke,go_sem,eg]
 ·refine CallsIn.mono (ŵ (w.heap.size+1) (λk J W=>∃S,J=(w.heap.size+1)::S/\I k S W/\W.heap[w.heap.size+1]? = some (.loop (q .ready))/\W.heap[w.heap.size]? = some (.deferred (some []))/\w.heap.size+1∉S/\w.heap.size∉S)
   ((w.heap.size+1)::S0) G ώ ?_ ?_ ?_ ?_ ?_) ?_
  ·rintro k J A ⟨S,rfl,R,F,hd,U,ŉ⟩ b o;rcases mem_cons.1 o with rfl|o
   ·exact (Array.getElem?_eq_some_iff.1 F).1
   ·exact ϗ k S A R b o
  ·rintro k J A B ⟨S,rfl,R,F,hd,U,ŉ⟩ hk hq;rw[Ö] at hk hq;have Ħ:=(Array.getElem?_eq_some_iff.1 F).1;refine⟨S,rfl,hI k S _ A B R hk (λb o=>?_),(hk.block _ Ħ vI).trans F,(hk.block _ iK vI).trans hd,U,ŉ⟩;simp at o;subst o;exact⟨λh=>hq (mem_cons_of_mem _ h),iK⟩
  ·rintro k J A Wy ý ⟨S,rfl,R,F,hd,U,ŉ⟩;have Ħ:=(Array.getElem?_eq_some_iff.1 F).1;have hy:=run_yield (P:=P) (args:=z k) F (by rw[Z];exact π k);rw[Z] at hy;refine⟨fn,_,assign,body,hy,roundIn_of_wpIn ľ (ň _ k A _ ?_)⟩;have Ĭ:(A.alloc (Fm k)).heap[w.heap.size+1]? = some (.loop (q .ready)):=(Below.heap_alloc _ _ _ Ħ).trans F;refine⟨_,run_beginRound Ĭ (by rw[Z]),?_⟩;obtain⟨Ab,yu⟩:=dM ((A.alloc (Fm k)).putObj (w.heap.size+1) (.loop { q .ready with state:=.busy }));rw[<-yu];have Y:Kept [w.heap.size+1] A Ab:=by rw[yu];exact ((Kept.refl _ _).alloc _).put _ _ (.inl vI)
   have hsb:Ab.heap.size=A.heap.size+1:=by rw[yu];simp
   have Ë:Ab.heap[w.heap.size+1]? = some (.loop { q .ready with state:=.busy }):=by rw[yu];exact World.putObj_heap_same rP
   have Β:=hI k S _ A Ab R Y (λb o=>by simp at o;subst o;exact⟨U,iK⟩);have ı:Ab.heap[A.heap.size]? = some (Fm k):=by rw[yu,World.putObj_heap_other iK];exact World.alloc_heap_new _ _
   refine wpIn_mono (hbody _ k S Ab A.heap.size Wy ý Β ı (λh=>by have:=ϗ k S A R _ h;omega)) ?_;rintro e a3 W3 H;cases e with
   | normal=>
    obtain⟨S3,hi3,ę,V⟩:=H;have hl3:=(ę.block _ iK U).trans Ë;have hs3:=ę.size;have ag0:w.heap.size+1∉S3:=λh=>by rcases V _ h with h|h;exact U h;omega
    have am2:w.heap.size∉S3:=λh=>by rcases V _ h with h|h;exact ŉ h;omega
    refine⟨_,_,run_endRound (P:=P) none hl3,rfl,(w.heap.size+1)::S3,⟨S3,rfl,?_,?_,?_,ag0,am2⟩,?_,?_⟩
    ·exact hI (k+1) S3 [w.heap.size+1] W3 _ hi3 ((Kept.refl _ _).put _ _ (.inl vI)) (λb o=>by simp at o;subst o;exact⟨ag0,iK⟩)
    ·rw[World.putObj_heap_same iK,Z];rfl
    ·rw[World.putObj_heap_other iK,ę.block _ iK ŉ,Y.block _ iK vI];exact hd
    ·have h1:Kept ((w.heap.size+1)::S) A Ab:=⟨Y.os,Y.tape,Y.output,Y.size,λb o hm=>Y.block b o (λh=>hm (by simp at h;subst h;simp))⟩;exact (h1.trans ę (λx hx=>.inl (mem_cons_of_mem _ hx))).put _ _ (.inl vI)
    ·intro b o;rcases mem_cons.1 o with rfl|o
     ·exact .inl vI
     ·rcases V b o with h|h
      ·exact .inl (mem_cons_of_mem _ h)
      ·exact .inr iK
   | ret=>exact H.elim
   | exit id=>exact H.elim
   | goto t=>exact H.elim
   | panic ch=>exact H.elim
   | outgrown=>exact H.elim
  ·refine⟨S0,rfl,hI 1 S0 [] w G h0 ϓ (λb o=>by cases o),hL1,Ē,?_,?_⟩
   ·intro h;have:=ϗ 1 S0 w h0 _ h;omega
   ·intro h;have:=ϗ 1 S0 w h0 _ h;omega
  ·intro b o H;rcases mem_cons.1 o with rfl|o
   ·have:=hPr _ H;omega
   ·exact ĝ b o H
  ·rintro e W2 ⟨⟨v,rfl⟩,J,S,rfl,R,F,hd,U,ŉ⟩;have Ħ:=(Array.getElem?_eq_some_iff.1 F).1;refine⟨none,_,by have:=run_endLoop (P:=P) F (by rw[Z];simp);rw[Z] at this;exact this,hdone _ S _ (le_refl _) ?_ ŉ ((World.putObj_heap_other iK).trans hd)⟩;exact hI m S [w.heap.size+1] W2 _ R ((Kept.refl _ _).put _ _ (.inl vI)) (λb o=>by simp at o;subst o;exact⟨U,iK⟩)
open Go.Shelf
attribute [local go_sem] Oper.semAt_some
theorem II(o:Option Addr)(m c:Nat)(w:World):
  Calls prog 173 #[.slice o m c] w λe w'=>e = .returned (.func (.func 214) #[] #[.pointer (some ⟨w.heap.size,0,none⟩)])/\w'=w.alloc (.cells #[.slice o m c] 156):=by
 go_enter func173,ntmps173;go_wp2;go_ret;exact⟨rfl,rfl⟩
def pG(V:Nat->Nat)(k:Nat):Nat:=V k ^^^ V (k-1)
def qB(V:Nat->Nat)(k:Nat):Value:=dV (aj.fu (aj.aY V k) (pG V k)) (aj.aY V (k+1)).2.1 (aj.bG (aj.aY V (k+1)))
def xD(V:Nat->Nat)(k:Nat):Array Value:=#[qB V k,.int .u64 (pG V k:Int)]
structure MC(wr:World)(Bn lb lo m c:Nat)(V:Nat->Nat)(q k:Nat):Prop where
 box:wr.cell? ⟨Bn,0,none⟩=some (.slice (some ⟨lb,lo,none⟩) m c)
 vals:∀i,i<m->wr.cell? ⟨lb,lo+i,none⟩=some (.int .u64 (V i:Int))
 tab:Tab wr
 win:wr.heap[q]? = some (.cells #[.int .i64 ((aj.aY V k).2.1:Int),.int .i64 ((aj.bG (aj.aY V k):Nat):Int)] 282 (0,0))
theorem MC.kept{wr o:World}{A lb D m c:Nat}{V:Nat->Nat}{q k:Nat}(h:MC wr A lb D m c V q k){S:List Nat}(z:Kept S wr o)(H:A∉S)(G:lb∉S)(J:16∉S)(K:q∉S):MC o A lb D m c V q k:=
 ⟨z.cell h.box H,λi F=>z.cell (h.vals i F) G,λj I=>z.cell (h.tab j I) J,(z.block q (lt_of_block h.win) K).trans h.win⟩
theorem uG(V:Nat->Nat)(n:Nat)(o:∀i,i<n->V i<18446744073709551616):∀k,k<=n->aj.um (aj.aY V k)
 | 0,_=>by simp[aj.aY,aj.um]
 | k+1,h=>by
  by_cases q:k=0
  ·subst q;rw[aj.qx];simp[aj.um]
  ·rw[aj.nO V k q];exact aj.Wz (uG V n o k iK) _ (aj.zO _ _ (o k iK) (o (k-1) iK))
theorem BG(G lb Q m c:Nat)(V:Nat->Nat)(w:World)(Ĝ:1<=m)(hm:m<=1000)(hV:∀i,i<m->V i<18446744073709551616)
  (Jw:w.cell? ⟨G,0,none⟩=some (.slice (some ⟨lb,Q,none⟩) m c)) (xU:∀i,i<m->w.cell? ⟨lb,Q+i,none⟩=some (.int .u64 (V i:Int))) (hT:Tab w) :
  Rounds prog 214 #[.pointer (some ⟨G,0,none⟩)] (xD V) m [G,lb,16] w:=by
 intro l J S0 W Ϗ aha hJk hJy hJ0 ĝ;have hBn:=lt_of_cell Jw;have Ë:=lt_of_cell (xU 0 Ĝ);have Zh:=Ϗ.size;have adP:=(Ϗ.cell (p:=⟨G,0,none⟩) hBn).trans Jw;have ahb:∀i,i<m->W.cell? ⟨lb,Q+i,none⟩=some (.int .u64 (V i:Int)):=λi I=>(Ϗ.cell (p:=⟨lb,Q+i,none⟩) Ë).trans (xU i I)
 have hTW:=hT.below Ϗ hT.lt;have hG:=hT.lt;obtain⟨wa,bT⟩:=dM (W.alloc (.cells #[.int .i64 0,.int .i64 0] 282));have È:Kept [W.heap.size] W wa:=by rw[bT];exact (Kept.refl _ _).alloc _
 have Ŵ:wa.heap.size=W.heap.size+1:=by rw[bT];simp
 have ahc:W.heap.size∉S0:=λh=>by have:=aha 1 S0 W hJ0 _ h;omega
 have hIt:MC wa G lb Q m c V W.heap.size 1:=by
  refine⟨È.cell adP rP,λi I=>È.cell (ahb i I) rP,λj hj=>È.cell (hTW j hj) rP,?_⟩;rw[bT,aj.qx];exact heap_alloc_new _ _
 have D:=ϟ hIt;have HJA:=ϟ (hJk 1 S0 W wa hJ0 È ahc);have am8:=ϟ aha;have HJk:=ϟ hJk;have HJy:=ϟ hJy;have lS:Hid (∀wx,wx=W.alloc (.cells #[.int .i64 0,.int .i64 0] 282)->wx=wa):=λwx h=>h.trans bT.symm
 have KR:Hid (∀b,b∈S0->b ∉ [G,lb,16]/\b≠W.heap.size):=λb Y=>⟨ĝ b Y,λe=>ahc (e ▸ Y)⟩
 have HV:=ϟ hV;refine callsIn_of_wp func214 rfl trivial ?_ rfl;simp only[ntmps214,size_toArray,length_cons,length_nil,Nat.reduceAdd,Nat.reduceSub,Array.replicate_succ,Array.replicate_zero,push_toArray,append_toArray,nil_append,cons_append];gi_wp2;rw[lS.out _ rfl];gi_loopw [4,5,6] (λi _ _ wr=>∃(k:Nat) (S:List Nat),1<=k/\k<=m/\i = .int .i64 k/\J k S wr/\(∀b,b∈S->b ∉ [G,lb,16]/\b≠W.heap.size)/\MC wr G lb Q m c V W.heap.size k) (λi _ _ _=>m-(intOf i).toNat);case atStart=>exact⟨1,S0,le_refl _,Ĝ,rfl,HJA.out,KR.out,D.out⟩
 case round=>
  obtain⟨k,S,ϓ,ý,rfl,hJ,Zi,q⟩:=hrel;have Ø:=q.box;by_cases ϗ:k<m
  ·obtain⟨j,rfl⟩:∃j,k=j+1:=⟨k-1,iK⟩;have ë:=q.vals (j+1) ϗ;have ò:=q.vals j iK;have ā:=HV.out (j+1) ϗ;have æ:=HV.out j iK;have aco:=u64_xor_nat (V (j+1)) (V j) ā æ;have ð:=aj.zO (V (j+1)) (V j) ā æ;have R:pG V (j+1)=V (j+1) ^^^ V j:=rfl;have hwo:=uG V m HV.out (j+1) iK;have ϖ:=aj.nO V (j+1) iK;obtain⟨x,hx⟩:=dM (V (j+1) ^^^ V j);have K:aj.aY V (j+1+1)=aj.eG (aj.aY V (j+1)) x:=by rw[ϖ,hx];rfl
   rw[<-hx] at aco ð R;have U:=λw0 hT0=>IE (aj.aY V (j+1)) x w0 hwo ð hT0
   rw[<-K] at U;obtain⟨L,hL⟩:=dM ((aj.aY V (j+1)).2.1);obtain⟨Wd,hWd⟩:=dM (aj.bG (aj.aY V (j+1)));have ļ:=q.win;rw[<-hL,<-hWd] at U ļ;unfold jW dV at U;have q0:=ak ļ 0;have q1:=ak ļ 1;have o:xD V (j+1)=#[.agg #[.int .i64 ((aj.fu (aj.aY V (j+1)) x:Nat):Int),.int .i64 ((aj.aY V (j+1+1)).2.1:Int),.int .i64 ((aj.bG (aj.aY V (j+1+1)):Nat):Int)],.int .u64 (x:Int)]:=by
    unfold xD qB dV;rw[R]
   obtain⟨y,hy0⟩:=dM (aj.fu (aj.aY V (j+1)) x);obtain⟨L2,O⟩:=dM ((aj.aY V (j+1+1)).2.1);obtain⟨W2,υ⟩:=dM (aj.bG (aj.aY V (j+1+1)));rw[<-hy0,<-O,<-υ] at U o;have HL2:=ϟ O;have HW2:=ϟ υ;generalize hV1:V (j+1)=V1 at *;generalize hV0:V j=V0 at *;have wO:=ϟ U;have D:=ϟ q;have HJ:=ϟ hJ;have Zj:=ϟ Zi;have am9:=ϟ o;have QF:=ϟ ļ;have hjI:(j:Int)+1<(m:Int):=iK;clear U q hJ Zi R ļ ϖ K hwo ā æ hx hL hWd hV1 hV0 ð hy0 O υ o;gi_wp2;refine wpIn_wide.2 ?_;go_quiet (fail);gi_wp2_with fail;refine⟨trivial,rfl,?_⟩;refine CallsIn.mono (callsIn_wide.2 (wO.out _ (λi I=>D.out.tab i I))) ?_;rintro e w1 ⟨rfl,z⟩;have Ö:wr.heap.size<=w1.heap.size:=z.size;have ana:Kept [W.heap.size] wr w1:=⟨z.os,z.tape,z.output,z.size,λb Y _=>z.block b Y⟩;obtain⟨A,hA⟩:=dM (w1.alloc (.cells #[.int .i64 (y:Int),.int .i64 (L2:Int),.int .i64 (W2:Int)] 284));have hkA:Kept [W.heap.size] wr A:=by rw[hA];exact ana.alloc _
   have anb:Kept [] wr A:=by rw[hA];exact (Kept.of_below (S:=[]) (⟨z.os,z.tape,z.output,z.size,z.block⟩:Below wr.heap.size wr w1)).alloc _
   have H:W.heap.size∉S:=λh=>(Zj.out _ h).2 rfl
   have hJA:=HJk.out _ S wr A HJ.out hkA H;have hpA:A.heap[w1.heap.size]? = some (.cells #[.int .i64 (y:Int),.int .i64 (L2:Int),.int .i64 (W2:Int)] 284 (0,0)):=by rw[hA];exact heap_alloc_new _ _
   have θ:A.heap.size=w1.heap.size+1:=by rw[hA];simp
   have hpS:w1.heap.size∉S:=λh=>by have:=am8.out _ S wr HJ.out _ h;omega
   obtain⟨fn,tmps,assign,body,hy,hR⟩:=HJy.out (j+1) S A ϓ ϗ hJA;rw[am9.out] at hy;rw[hA] at hy;have ahe:=ϟ (D.out.kept anb vI vI vI vI);have HR:=ϟ hR;have Bq:=ϟ hpA;have HHA:=ϟ hA;gi_wp2;refine⟨rfl,?_⟩;rw[<-HHA.out];refine RoundIn.mono HR.out ?_;rintro e W3 ⟨rfl,S',hJ3,ę,hS3⟩;have hqA:W.heap.size<wr.heap.size:=lt_of_block QF.out;have Z:=(ę.block _ iK hpS).trans Bq.out;have F:=ahe.out.kept ę (λh=>(Zj.out _ h).1 vI) (λh=>(Zj.out _ h).1 vI) (λh=>(Zj.out _ h).1 vI) H;have KS:W3.heap[W.heap.size]? = some (.cells #[.int .i64 (L:Int),.int .i64 (Wd:Int)] 282 (0,0)):=by
    have h1:=ahe.out.win;have h2:A.heap[W.heap.size]? = some (.cells #[.int .i64 (L:Int),.int .i64 (Wd:Int)] 282 (0,0)):=by
     rw[h1,<-D.out.win];exact QF.out
    exact (ę.block _ iK H).trans h2
   have p1:=ak Z 1;have p2:=ak Z 2;have z0:=ak KS 0;have z1:=ak KS 1;have y0:=aA KS 0;have y1:=aA KS 1;have anc:W.heap.size∉S':=λh=>by rcases hS3 _ h with h|h;exact H h;omega
   obtain⟨B,hB⟩:=dM ((W3.setCell ⟨W.heap.size,0,none⟩ (.int .i64 (L2:Int))).setCell ⟨W.heap.size,1,none⟩ (.int .i64 (W2:Int)));have Ź:Kept [W.heap.size] W3 B:=by rw[hB];exact ((Kept.refl _ _).setCell (.inl vI) _).setCell (.inl vI) _
   have hJB:=HJk.out _ S' W3 B hJ3 Ź anc;have ane:MC B G lb Q m c V W.heap.size (j+1+1):=by
    refine⟨Ź.cell F.box rP,λi I=>Ź.cell (F.vals i I) rP,λi I=>Ź.cell (F.tab i I) rP,?_⟩;rw[hB,heap_set (heap_set KS 0 _) 1 _,HL2.out,HW2.out];rfl
   have hSB:∀b,b∈S'->b ∉ [G,lb,16]/\b≠W.heap.size:=by
    intro b Y;rcases hS3 b Y with h|h
    ·exact Zj.out b h
    ·refine⟨?_,iK⟩;simp
     omega
   have HHB:=ϟ hB;have IJ:=ϟ hJB;have anf:=ϟ ane;have KT:=ϟ hSB;gi_wp2;go_roundw;case rel=>rw[<-HHB.out];exact⟨j+1+1,S',iK,iK,by go_num,IJ.out,KT.out,anf.out⟩
   case measure=>simp[intOf];omega
  ·have:k=m:=iK;subst this;have HJ:=ϟ hJ;gi_wp2;go_end0;exact⟨⟨_,rfl⟩,S,HJ.out⟩
attribute [local go_sem] Oper.semAt_some
theorem Zk(V:Nat->Nat)(m:Nat)(o:∀i,i<m->V i<18446744073709551616)(k:Nat)(D:1<=k)(A:k<m):
  (aj.dD (aj.aY V k) (pG V k)).length=aj.mV (aj.partsOf (aj.fu (aj.aY V k) (pG V k)) (aj.aY V (k+1)).2.1 (aj.bG (aj.aY V (k+1))) (pG V k)):=by
 have q:=aj.zO (V k) (V (k-1)) (o k A) (o (k-1) iK);have z:=uG V m o k iK;rw[aj.nO V k iK];show (aj.dD _ (V k ^^^ V (k-1))).length=_;rw[aj.IG z _ q];rfl
theorem wrap_small(n:Int)(q:0<=n)(o:n<=1000000):IntKind.i64.wrap n=n:=by
 rw[IntKind.wrap_i64];omega
theorem WQ{w W o:World}{a N n:Int}(z:W.heap[w.heap.size]? = some (.cells #[.int .i64 a] 3 (0,0)))(A:Below w.heap.size w W)(q:Below W.heap.size W o)(D:N=n):
  (o.setCell ⟨w.heap.size,0,none⟩ (.int .i64 n)).heap[w.heap.size]? = some (.cells #[.int .i64 N] 3 (0,0))/\Below w.heap.size w (o.setCell ⟨w.heap.size,0,none⟩ (.int .i64 n))/\Kept [w.heap.size] W (o.setCell ⟨w.heap.size,0,none⟩ (.int .i64 n)):=by
 subst D;refine⟨?_,(A.trans (q.mono A.size)).setCell (le_refl _) _,(Kept.of_below q).setCell (.inl vI) _⟩;rw[heap_set ((q.block _ (lt_of_block z)).trans z) 0 _];rfl
theorem WR(lb lo m c:Nat)(V:Nat->Nat)(w:World)(Ĝ:1<=m)(hm:m<=1000)(hV:∀i,i<m->V i<18446744073709551616)
  (xU:∀i,i<m->w.cell? ⟨lb,lo+i,none⟩=some (.int .u64 (V i:Int))) (H:Tab w) :
  Calls prog 172 #[.slice (some ⟨lb,lo,none⟩) m c] w λe w'=>e = .returned (.int .i64 ((aj.cZ V m).length:Int))/\Below w.heap.size w w':=by
 have Š:((m:Int)==0)=false:=wK;have Ë:=lt_of_cell (xU 0 Ĝ);have akk:=ϟ xU;have HV:=ϟ hV;have HT:Hid (Tab w):=H;have hG:=H.lt;refine callsIn_wide.1 (callsIn_of_wp_marks (n:=0) func172 rfl trivial (wpIn_wide.2 ?_));simp only[ntmps172,size_toArray,length_cons,length_nil,Nat.reduceAdd,Nat.reduceSub,Array.replicate_succ,Array.replicate_zero,push_toArray,append_toArray,nil_append,cons_append];go_wp2_with fail;refine Calls.mono (II _ _ _ _) ?_;rintro e w1 ⟨rfl,rfl⟩;go_wp2;obtain⟨F,G⟩:=dM ((w.alloc (.cells #[.int .i64 64] 3)).alloc (.cells #[.slice (some ⟨lb,lo,none⟩) m c] 156));have þ:F.heap.size=w.heap.size+2:=by rw[G];simp
 have Ø:Below w.heap.size w F:=by rw[G];exact ((Below.refl _ _).alloc (le_refl _) _).alloc vI _
 have Ĉ:F.heap[w.heap.size]? = some (.cells #[.int .i64 64] 3 (0,0)):=by
  rw[G,Below.heap_alloc _ _ _ vI];exact heap_alloc_new _ _
 have ŏ:F.heap[w.heap.size+1]? = some (.cells #[.slice (some ⟨lb,lo,none⟩) m c] 156 (0,0)):=by
  rw[G];have:=heap_alloc_new (w.alloc (.cells #[.int .i64 64] 3)) (.cells #[.slice (some ⟨lb,lo,none⟩) m c] 156);simpa using this
 rw[<-G];refine FT (gf:=214) (lb:=#[.pointer (some ⟨w.heap.size+1,0,none⟩)]) rfl (enters_of func214 mU rfl) m (xD V) (λ_=>rfl) [w.heap.size+1,lb,16] (λb o=>by simp at o;omega)
  (BG (w.heap.size+1) lb lo m c V F Ĝ hm HV.out (ak ŏ 0) (λi hi=>(Ø.cell (p:=⟨lb,lo+i,none⟩) Ë).trans (akk.out i hi)) (HT.out.below Ø hG))
  (λk S W=>S = [w.heap.size]/\W.heap[w.heap.size]? = some (.cells #[.int .i64 ((aj.cZ V k).length:Int)] 3 (0,0))/\Below w.heap.size w W)
  ?lt ?abide [w.heap.size] ?start ?apart (λk=>.cells #[.int .i64 ((aj.fu (aj.aY V k) (pG V k):Nat):Int),.int .i64 ((aj.aY V (k+1)).2.1:Int),.int .i64 ((aj.bG (aj.aY V (k+1)):Nat):Int)] 284)
  (λk p=>{ tmps:=#[.slice (some ⟨lb,lo,none⟩) m c,undef,.int .i64 0,.pointer (some ⟨w.heap.size,0,none⟩),.pointer (some ⟨p,0,none⟩),.slice (some ⟨lb,lo,none⟩) m c,.int .i64 (m:Int),.bool false,.slice (some ⟨lb,lo,none⟩) m c,.func (.func 214) #[] #[.pointer (some ⟨w.heap.size+1,0,none⟩)],qB V k,.int .u64 (pG V k:Int),undef,undef,undef,undef,undef],defers:=[] })
  ?assign ?body ?done
 case lt=>
  rintro k S A ⟨rfl,o,_⟩ b hm;simp at hm;subst hm;exact lt_of_block o
 case abide=>
  rintro k S T A B ⟨rfl,o,z⟩ hk H;have hn:w.heap.size∉T:=λh=>(H _ h).1 vI
  exact⟨rfl,(hk.block _ (lt_of_block o) hn).trans o,z.trans (hk.below z.size (λx U=>by have:=(H x U).2;omega))⟩
 case start=>exact⟨rfl,by rw[aj.lF,aj.aG];exact Ĉ,Ø⟩
 case apart=>intro b o;simp at o;subst o;simp;omega
 case assign=>
  intro l k W K Z;unfold qB dV at Z;unfold xD qB dV;gi_wp2;exact Z
 case body=>
  rintro l k S W p ϓ ý ⟨rfl,o,z⟩ Y hpS;have ϑ:=Zk V m HV.out k ϓ ý;have Ď:=aj.jk V k iK;have I:=uG V m HV.out (k+1) iK;have q:=aj.uQ I;have hy:aj.fu (aj.aY V k) (pG V k)<=2:=by unfold aj.fu;(repeat' split)<;>omega
  have ó:=aj.ug V k;have J:=aj.Fh (aj.aY V k) (pG V k);rw[aj.WE] at ϑ;have R:=λw0=>WH (aj.fu (aj.aY V k) (pG V k)) (aj.aY V (k+1)).2.1 (aj.bG (aj.aY V (k+1))) w0 hy q
  rw[<-ϑ] at R;have Ϲ:((aj.cZ V (k+1)).length:Int)=((aj.cZ V k).length:Int)+((aj.dD (aj.aY V k) (pG V k)).length:Int):=by
   rw[Ď,length_append];exact Int.natCast_add _ _
  unfold dV at R;unfold qB dV;generalize aj.fu (aj.aY V k) (pG V k)=y at *;generalize (aj.aY V (k+1)).2.1=L2 at *;generalize aj.bG (aj.aY V (k+1))=W2 at *;generalize (aj.dD (aj.aY V k) (pG V k)).length=ad at *;generalize (aj.cZ V k).length=O at *;have ME:=ϟ Ϲ;have jy:=ϟ R;have htI:(O:Int)<=77000:=iK
  have haI:(ad:Int)<=77:=iK;have c0:=ak o 0;have f0:=aA o 0;have d0:=ak Y 0;have d1:=ak Y 1;have d2:=ak Y 2;have WS:=ϟ z;have QG:=ϟ o;have Ï:=lt_of_block o;have amJ:prog.follows .mixedOrders=true:=mU;clear Ϲ R ϑ Ď I q hy ó J z o Ĉ ŏ Y;gi_wp2_with fail;gi_region_with_o ((refine⟨trivial,rfl,?_⟩;refine CallsIn.mono (CallsIn.inRound l (callsIn_wide.2 (jy.out _))) ?_;rintro e w2 ⟨rfl,Q⟩;have k0:w2.cell? ⟨w.heap.size,0,none⟩=some (.int .i64 (O:Int)):=(Q.cell (p:=⟨w.heap.size,0,none⟩) Ï).trans c0;have k1:w2.frozen? ⟨w.heap.size,0,none⟩=false:=(Q.frozen (p:=⟨w.heap.size,0,none⟩) Ï).trans f0;have HB2:=ϟ Q;clear Q));all_goals
   have ă:=WQ (w:=w) (N:=((aj.cZ V (k+1)).length:Int)) QG.out WS.out (Aq HB2.out) (ME.out.trans (wrap_small _ iK iK).symm);exact⟨[w.heap.size],⟨rfl,ă.1,ă.2.1⟩,ă.2.2,λb o=>.inl o⟩
 case done=>
  rintro D S W hD ⟨rfl,o,z⟩ hDS Z;have c0:=ak o 0;have WS:=ϟ z;go_wp2;refine⟨vI,.inl ⟨_,_,rfl,run_takeDeferred Z,?_⟩⟩;exact⟨_,results_tmp rfl _ _ _,rfl,WS.out.trans (((Kept.refl [D] W).put _ _ (.inl vI)).below WS.out.size (λx U=>by simp at U;subst U;omega))⟩
attribute [local go_sem] Oper.semAt_some
theorem Zl(o:Option Addr)(c:Nat)(w:World)(p:Addr):
  Calls prog 124 #[.pointer (some p),.slice o 0 c] w λe w'=>e = .returned .nilIface/\Below w.heap.size w w':=by
 go_enter func124,ntmps124;go_wp2;exact bodyPost_ret (v:=.nilIface) (by simp[results,results124,go_sem]) rfl ⟨rfl,((Below.refl _ _).alloc (le_refl _) _).alloc vI _⟩
structure uo(w w':World)(r:Nat)(v:Value)(bs:List Bool)(lb lo m:Nat)(V:Nat->Nat):Prop where
 row:dG w' r v bs
 vals:∀i,i<m->w'.cell? ⟨lb,lo+i,none⟩=some (.int .u64 (V i:Int))
 tab:Tab w'
 box:w'.heap[w.heap.size]? = some (.cells #[.pointer (some ⟨r,0,none⟩)] 219 (0,0))
 err:w'.heap[w.heap.size+1]? = some (.cells #[.nilIface] 25 (0,0))
 aI:Below w.heap.size w w'
theorem uo.below{w a b:World}{r:Nat}{v:Value}{z:List Bool}{lb q m:Nat}{V:Nat->Nat}(h:uo w a r v z lb q m V)(o:Below a.heap.size a b):uo w b r v z lb q m V:=
 ⟨h.row.below o,λi A=>(o.cell (p:=⟨lb,q+i,none⟩) (lt_of_cell (h.vals i A))).trans (h.vals i A),h.tab.below o h.tab.lt,(o.block _ (lt_of_block h.box)).trans h.box,(o.block _ (lt_of_block h.err)).trans h.err,h.aI.trans (o.mono h.aI.size)⟩
theorem uo.drew{w a:World}{r:Nat}{v:Value}{o:List Bool}{lb q m:Nat}{V:Nat->Nat}(h:uo w a r v o lb q m V):uo w a.drew r v o lb q m V:=
 h.below ⟨rfl,rfl,rfl,le_refl _,λ_ _=>rfl⟩
theorem vW{w w':World}{T:List Nat}{o:Nat}{e:TypeId}{s:Nat}{v:Value}{n:Nat}{xs:List Value}(h:w.ownsRow o e s v n xs)(K:Kept T w w')(H:∀b,b∈v.ownBlock.toList->b∉T):w'.ownsRow o e s v n xs:=by
 obtain⟨I,z⟩:=h;refine⟨I,?_⟩;rcases z with z|⟨g,D,A,G,J,F,q⟩
 ·exact .inl z
 ·exact .inr ⟨g,D,A,G,J,(K.block g (lt_of_block F) (H g (by rw[G];simp[Value.ownBlock]))).trans F,q⟩
theorem dG.jX{w w':World}{T:List Nat}{r:Nat}{v:Value}{o:List Bool}(h:dG w r v o)(z:Kept T w w')(q:∀b,b∈r::v.ownBlock.toList->b∉T):dG w' r v o:=
 ⟨(z.block r h.lt (q r vI)).trans h.hb,vW h.own z (λb A=>q b (mem_cons_of_mem _ A))⟩
structure xX(w w':World)(r:Nat)(v vk:Value)(bs:List Bool):Prop where
 row:dG w' r vk bs
 box:w'.heap[w.heap.size]? = some (.cells #[.pointer (some ⟨r,0,none⟩)] 219 (0,0))
 err:w'.heap[w.heap.size+1]? = some (.cells #[.nilIface] 25 (0,0))
 kept:Kept (r::v.ownBlock.toList) w w'
 grew:vk.ownBlock=v.ownBlock\/∃g,vk.ownBlock=some g/\w.heap.size+2<=g
theorem xX.mem{w w':World}{r:Nat}{v q:Value}{A:List Bool}(h:xX w w' r v q A):∀x,x∈r::q.ownBlock.toList->x∈r::v.ownBlock.toList\/w.heap.size+2<=x:=by
 intro x z;rcases mem_cons.1 z with o|o
 ·exact .inl (by rw[o];simp)
 ·rcases h.grew with e|⟨g,e,D⟩
  ·rw[e] at o;exact .inl (mem_cons.2 (.inr o))
  ·rw[e] at o;simp at o;subst o;exact .inr D
theorem xX.step{w a b:World}{r:Nat}{v o z:Value}{K bs':List Bool}(h:xX w a r v o K)(Q:∀x,x∈r::v.ownBlock.toList->x<w.heap.size)(J:dG b r z bs')(F:Kept (r::o.ownBlock.toList) a b)(q:jT a o z):xX w b r v z bs':=by
 have G:∀x,w.heap.size<=x->x<w.heap.size+2->x∉r::o.ownBlock.toList:=λx A R O=>by
  rcases h.mem x O with H|H
  ·have:=Q x H;omega
  ·omega
 refine⟨J,(F.block _ (lt_of_block h.box) (G _ (le_refl _) iK)).trans h.box,(F.block _ (lt_of_block h.err) (G _ iK iK)).trans h.err,h.kept.trans F (λx I=>?_),?_⟩
 ·rcases h.mem x I with A|A
  ·exact .inl A
  ·exact .inr iK
 ·have:=lt_of_block h.err;rcases q with e|⟨g,e,q⟩
  ·rcases h.grew with D|⟨g,D,q⟩
   ·exact .inl (e.trans D)
   ·exact .inr ⟨g,e.trans D,q⟩
  ·exact .inr ⟨g,e,iK⟩
theorem xX.jX{w a b:World}{T:List Nat}{r:Nat}{v D:Value}{F:List Bool}(h:xX w a r v D F)(z:Kept T a b)(q:∀x,x∈T->x∉r::D.ownBlock.toList/\w.heap.size+2<=x):xX w b r v D F:=
 ⟨h.row.jX z (λx A o=>(q x o).1 A),(z.block _ (lt_of_block h.box) (λo=>by have:=(q _ o).2;omega)).trans h.box,(z.block _ (lt_of_block h.err) (λo=>by have:=(q _ o).2;omega)).trans h.err,
  h.kept.trans z (λx A=>.inr (by have:=(q x A).2;omega)),h.grew⟩
theorem Ci(V:Nat->Nat)(a:Nat):∀b,a<=b->(aj.cZ V a).length<=(aj.cZ V b).length
 | 0,h=>by obtain rfl:a=0:=iK;exact le_refl _
 | b+1,h=>by
  rcases lt_or_ge b a with q|q
  ·have:a=b+1:=iK;subst this;exact le_refl _
  ·have z:=Ci V a b q;by_cases o:b=0
   ·subst o;have:a=0:=iK
    subst this;simp[aj.cZ]
   ·rw[aj.jk V b o,length_append];omega
theorem Zm(lb lo m c:Nat)(V:Nat->Nat)(w:World)(Y:1<=m)(I:m<=1000)(hV:∀i,i<m->V i<18446744073709551616)
  (xU:∀i,i<m->w.cell? ⟨lb,lo+i,none⟩=some (.int .u64 (V i:Int))) (hT:Tab w) (r:Nat) (v:Value) (o:List Bool) (hr:dG w r v o) (Ë:lb∉r::v.ownBlock.toList) (hGr:16<r)
  (Ϣ:o.length+(aj.cZ V m).length<=1048576) :
  Calls prog 124 #[.pointer (some ⟨r,0,none⟩),.slice (some ⟨lb,lo,none⟩) m c] w λe w'=>e = .returned .nilIface/\∃v',dG w' r v' (o++aj.cZ V m)/\Kept (r::v.ownBlock.toList) w w'/\jT w v v':=by
 have Š:((m:Int)==0)=false:=wK;obtain⟨W0,ù⟩:=dM ((w.alloc (.cells #[.pointer (some ⟨r,0,none⟩)] 219)).alloc (.cells #[.nilIface] 25));have Ø:Below w.heap.size w W0:=by rw[ù];exact ((Below.refl _ _).alloc (le_refl _) _).alloc vI _
 have KU:uo w W0 r v o lb lo m V:=by
  refine⟨hr.below Ø,λi hi=>(Ø.cell (p:=⟨lb,lo+i,none⟩) (lt_of_cell (xU i hi))).trans (xU i hi),hT.below Ø hT.lt,?_,?_,Ø⟩
  ·rw[ù,Below.heap_alloc _ _ _ vI];exact heap_alloc_new _ _
  ·rw[ù];have:=heap_alloc_new (w.alloc (.cells #[.pointer (some ⟨r,0,none⟩)] 219)) (.cells #[.nilIface] 25);simpa using this
 have QH:=ϟ KU;have HW0:=ϟ ù;have HV:=ϟ hV;have jy:=ϟ Ϣ;have CB:=ϟ Ë;have HR:=ϟ hr;have Ŭ:∀G,uo w G r v o lb lo m V->Calls prog 172 #[.slice (some ⟨lb,lo,none⟩) m c] G λe w'=>e = .returned (.int .i64 ((aj.cZ V m).length:Int))/\w'.cell? ⟨w.heap.size,0,none⟩=some (.pointer (some ⟨r,0,none⟩))/\uo w w' r v o lb lo m V:=λG q=>by
  refine (WR lb lo m c V G Y I hV q.vals q.tab).mono ?_;rintro e w' ⟨rfl,J⟩;have h1:=q.below J;exact⟨rfl,ak h1.box 0,h1⟩
 have Ķ:∀G,uo w G r v o lb lo m V->Calls prog 165 #[.pointer (some ⟨r,0,none⟩)] G λe w'=>e = .returned (.int .i64 (1048576-(o.length:Int)))/\w'.cell? ⟨w.heap.size,0,none⟩=some (.pointer (some ⟨r,0,none⟩))/\uo w w' r v o lb lo m V:=λG q=>by
  refine (DI G r v o q.row iK).mono ?_;rintro e w' ⟨rfl,rfl⟩;exact⟨rfl,ak q.box 0,q⟩
 have ţ:∀G,uo w G r v o lb lo m V->Calls prog 122 #[.pointer (some ⟨r,0,none⟩),.int .u64 (V 0:Int),.int .i64 64] G λe w'=>e = .returned .nilIface/\(w'.cell? ⟨w.heap.size,0,none⟩=some (.pointer (some ⟨r,0,none⟩))/\w'.cell? ⟨lb,lo,none⟩=some (.int .u64 (V 0:Int)))/\∃v1,xX w w' r v v1 (o++aj.cZ V 1)/\(∀i,i<m->w'.cell? ⟨lb,lo+i,none⟩=some (.int .u64 (V i:Int)))/\Tab w':=λG q=>by
  have z:=Ci V 1 m Y;rw[aj.lF,aj.aG] at z;have æ:=hV 0 Y;refine (kV G r v o q.row (V 0) 64 iK iK iK).mono ?_;rintro e w' ⟨rfl,v1,ϯ,ϓ,Ò⟩;have hwS:∀x,w.heap.size<=x->x∉r::v.ownBlock.toList:=λx H I=>by have:=hr.jl x I;omega
  have Ĉ:=(ϓ.block _ (lt_of_block q.box) (hwS _ (le_refl _))).trans q.box;have Zn:∀i,i<m->w'.cell? ⟨lb,lo+i,none⟩=some (.int .u64 (V i:Int)):=λi hi=>ϓ.cell (q.vals i hi) Ë
  refine⟨rfl,⟨ak Ĉ 0,by simpa using Zn 0 Y⟩,v1,⟨by rw[aj.lF];exact ϯ,Ĉ,(ϓ.block _ (lt_of_block q.err) (hwS _ iK)).trans q.err,(Kept.of_below q.aI).trans ϓ (λx H=>.inl H),by have:=lt_of_block q.err;rcases Ò with e|⟨g,e,hg⟩;exact .inl e;exact .inr ⟨g,e,iK⟩⟩,Zn,λj hj=>ϓ.cell (q.tab j hj) (λI=>by have:=hr.CP _ I;omega)⟩
 have Cc:=ϟ ţ;have akl:=ϟ Ŭ;have Wn:=ϟ Ķ;have aru:decide ((1048576:Int)-(o.length:Int)<((aj.cZ V m).length:Int))=false:=rP;generalize hLN:(aj.cZ V m).length=LN at *;have mG:=ϟ hLN;have KV:=ϟ (lt_of_cell (xU 0 Y));clear ţ Ŭ Ķ KU ù Ø hr hT xU hV Ϣ Ë hLN;refine callsIn_wide.1 (callsIn_of_wp_marks (n:=0) func124 rfl trivial (wpIn_wide.2 ?_));simp only[ntmps124,size_toArray,length_cons,length_nil,Nat.reduceAdd,Nat.reduceSub,Array.replicate_succ,Array.replicate_zero,push_toArray,append_toArray,nil_append,cons_append];go_wp2_with fail;have c0:=ak QH.out.box 0;rw[<-HW0.out];go_region_held3 (λw'=>w'.cell? ⟨w.heap.size,0,none⟩=some (.pointer (some ⟨r,0,none⟩))) (go_keep) ((first|(go_at_call 172;refine Calls.mono (akl.out _ (by first|exact QH.out|exact QH.out.drew)) ?_;rintro e w1 ⟨rfl,k1,ų⟩;have qo:=ϟ ų;clear ų QH)|(go_at_call 165;refine Calls.mono (Wn.out _ (by first|exact qo.out|exact qo.out.drew)) ?_;rintro e w2 ⟨rfl,k2,ő⟩;have uR:=ϟ ő;clear ő qo)));have ò:w2.cell? ⟨lb,lo,none⟩=some (.int .u64 (V 0:Int)):=by simpa using uR.out.vals 0 Y
 have hmN:0<m:=Y;go_wp2_with fail;go_region_held3 (λw'=>w'.cell? ⟨w.heap.size,0,none⟩=some (.pointer (some ⟨r,0,none⟩))/\w'.cell? ⟨lb,lo,none⟩=some (.int .u64 (V 0:Int))) (go_keep) ((go_at_call 122;refine Calls.mono (Cc.out _ (by first|exact uR.out|exact uR.out.drew)) ?_;rintro e R ⟨rfl,⟨k3,k4⟩,v1,F,ϭ,Ε⟩;have kQ:=ϟ F;have QI:=ϟ ϭ;have CV:Hid (Tab R):=Ε;clear F ϭ Ε uR Cc));go_wp2_with fail;refine Calls.mono (II _ _ _ _) ?_;rintro e w4 ⟨rfl,rfl⟩;go_wp2;obtain⟨W4,U⟩:=dM (R.alloc (.cells #[.slice (some ⟨lb,lo,none⟩) m c] 156));have hs4:W4.heap.size=R.heap.size+1:=by rw[U];simp
 have ř:Kept [] R W4:=by rw[U];exact (Kept.refl _ _).alloc _
 have ŏ:W4.heap[R.heap.size]? = some (.cells #[.slice (some ⟨lb,lo,none⟩) m c] 156 (0,0)):=by rw[U];exact heap_alloc_new _ _
 rw[<-U];have ang:=kQ.out.jX ř (λx H=>by cases H);have hs3:=lt_of_block kQ.out.err;have arv:=lt_of_cell (QI.out 0 Y);have hG3:=CV.out.lt;refine FT (gf:=214) (lb:=#[.pointer (some ⟨R.heap.size,0,none⟩)]) rfl (enters_of func214 mU rfl) m (xD V) (λ_=>rfl) [R.heap.size,lb,16] (λb J=>by simp at J;omega)
  (BG R.heap.size lb lo m c V W4 Y I HV.out (ak ŏ 0) (λi hi=>ř.cell (QI.out i hi) vI) (λj hj=>ř.cell (CV.out j hj) vI))
  (λk S W=>∃Q,S=r::Q.ownBlock.toList/\xX w W r v Q (o++aj.cZ V k))
  ?lt ?abide (r::v1.ownBlock.toList) ?start ?apart (λk=>.cells #[.int .i64 ((aj.fu (aj.aY V k) (pG V k):Nat):Int),.int .i64 ((aj.aY V (k+1)).2.1:Int),.int .i64 ((aj.bG (aj.aY V (k+1)):Nat):Int)] 284)
  (λk p=>{ tmps:=#[.pointer (some ⟨r,0,none⟩),.slice (some ⟨lb,lo,none⟩) m c,.pointer (some ⟨w.heap.size,0,none⟩),undef,.pointer (some ⟨w.heap.size+1,0,none⟩),.nilIface,.pointer (some ⟨p,0,none⟩),.int .u64 (pG V k:Int),undef,
   .pointer (some ⟨r,0,none⟩),.bool false,undef,.slice (some ⟨lb,lo,none⟩) m c,.int .i64 (m:Int),.bool false,.slice (some ⟨lb,lo,none⟩) m c,.int .i64 (LN:Int),.pointer (some ⟨r,0,none⟩),.int .i64 (1048576-(o.length:Int)),.bool false,
   undef,.pointer (some ⟨r,0,none⟩),.slice (some ⟨lb,lo,none⟩) m c,.pointer (some ⟨lb,lo,none⟩),.int .u64 (V 0:Int),.nilIface,.nilIface,.bool false,undef,.slice (some ⟨lb,lo,none⟩) m c,.func (.func 214) #[] #[.pointer (some ⟨R.heap.size,0,none⟩)],qB V k,.int .u64 (pG V k:Int),undef,undef,undef,undef,undef,undef,undef],defers:=[] })
  ?assign ?body ?done
 case lt=>
  rintro k S A ⟨Q,rfl,F⟩ b J;exact F.row.jl b J
 case abide=>
  rintro k S T A B ⟨Q,rfl,F⟩ hk hT;exact⟨Q,rfl,F.jX hk (λx H=>⟨(hT x H).1,by have:=(hT x H).2;omega⟩)⟩
 case start=>exact⟨v1,rfl,ang⟩
 case apart=>
  intro b J O;have ϗ:=kQ.out.row.jl b J;have σ:=kQ.out.row.CP b J;simp at O;rcases O with O|O|O
  ·omega
  ·subst O;rcases kQ.out.mem b J with h|h
   ·exact CB.out h
   ·have:=KV.out;omega
  ·omega
 case assign=>
  intro l k W K hK;unfold qB dV at hK;unfold xD qB dV;gi_wp2;exact hK
 case body=>
  rintro l k S W p ϓ ý ⟨Q,rfl,F⟩ O hpS;have H:=aj.zO (V k) (V (k-1)) (HV.out k ý) (HV.out (k-1) iK);have hu:=uG V m HV.out k iK;have hwo:=uG V m HV.out (k+1) iK;have hwide:=aj.uQ hwo;have hy:aj.fu (aj.aY V k) (pG V k)<=2:=by unfold aj.fu;(repeat' split)<;>omega
  have Ď:=aj.jk V k iK;have Ŋ:=aj.IG hu _ H;rw[<-aj.nO V k iK] at Ŋ;have z:=Ci V (k+1) m iK;have Ϣ:=jy.out;have ţ:=Za (aj.fu (aj.aY V k) (pG V k)) (aj.aY V (k+1)).2.1 (aj.bG (aj.aY V (k+1))) (pG V k) W hy hwide H r Q (o++aj.cZ V k) F.row (by
   have e:aj.mV (aj.partsOf (aj.fu (aj.aY V k) (pG V k)) (aj.aY V (k+1)).2.1 (aj.bG (aj.aY V (k+1))) (pG V k))=(aj.dD (aj.aY V k) (V k ^^^ V (k-1))).length:=by rw[Ŋ];rfl
   rw[e,length_append];rw[Ď,length_append] at z;have:=mG.out;omega)
  have Ϲ:o++aj.cZ V k++aj.jG (aj.partsOf (aj.fu (aj.aY V k) (pG V k)) (aj.aY V (k+1)).2.1 (aj.bG (aj.aY V (k+1))) (pG V k))=o++aj.cZ V (k+1):=by
   rw[Ď,Ŋ,append_assoc];rfl
  rw[Ϲ] at ţ;unfold dV at ţ;unfold qB dV;generalize aj.fu (aj.aY V k) (pG V k)=y at *;generalize (aj.aY V (k+1)).2.1=L2 at *;generalize aj.bG (aj.aY V (k+1))=W2 at *;have Cc:=ϟ ţ;have QJ:=ϟ F;have c0:=ak F.box 0;have d0:=ak O 0;have d1:=ak O 1;have d2:=ak O 2;generalize pG V k=x at *;gi_wp2_with fail;refine⟨trivial,rfl,?_⟩;refine CallsIn.mono (CallsIn.inRound l (callsIn_wide.2 Cc.out)) ?_;rintro e w5 ⟨rfl,v5,hr5,hk5,hg5⟩;have anh:=QJ.out.step HR.out.jl hr5 hk5 hg5;have ani:=ϟ anh;have HK5:=ϟ hk5;have HG5:=ϟ hg5;gi_wp2;exact⟨r::v5.ownBlock.toList,⟨v5,rfl,ani.out⟩,HK5.out,jT.mem HG5.out⟩
 case done=>
  rintro D S W hD ⟨Q,rfl,F⟩ hDS hK;have c0:=ak F.err 0;have f0:=aA F.err 0;have QJ:=ϟ F;go_wp2;have hK':(W.setCell ⟨w.heap.size+1,0,none⟩ .nilIface).heap[D]? = some (.deferred (some [])):=(Below.heap_setCell _ _ _ _ (by show D≠w.heap.size+1;omega)).trans hK;obtain⟨Z,hZ⟩:=dM ((W.setCell ⟨w.heap.size+1,0,none⟩ .nilIface).putObj D (.deferred none));have hkZ:Kept [w.heap.size+1,D] W Z:=by rw[hZ];exact ((Kept.refl _ _).setCell (.inl vI) _).put _ _ (.inl vI)
  have hcZ:Z.cell? ⟨w.heap.size+1,0,none⟩=some .nilIface:=by
   refine ak (cs:=#[.nilIface]) (t:=25) ?_ 0;rw[hZ,World.putObj_heap_other iK,heap_set QJ.out.err 0 _];rfl
  have akm:dG Z r Q (o++aj.cZ V m):=QJ.out.row.jX hkZ (λb J I=>by
   simp at I;rcases I with I|I
   ·rcases QJ.out.mem b J with h|h
    ·have:=HR.out.jl b h;omega
    ·omega
   ·subst I;exact hDS J)
  refine⟨vI,.inl ⟨_,_,rfl,run_takeDeferred hK',?_⟩⟩;rw[<-hZ];refine⟨.nilIface,by simp[results,results124,go_sem,hcZ],rfl,Q,akm,QJ.out.kept.trans hkZ (λx H=>.inr (by simp at H;omega)),?_⟩;rcases QJ.out.grew with e|⟨g,e,hg⟩
  ·exact .inl e
  ·exact .inr ⟨g,e,iK⟩
theorem acr(w:World)(J:Tab w)(q:Option Addr)(n c:Nat)(B:Nat->Nat)(Q:DC w q n B)(K:n<=1000)(r:Nat)(v:Value)(z:List Bool)(I:dG w r v z)(O:∀x,q=some x->x.block∉r::v.ownBlock.toList)(D:16<r)
  (R:z.length+(aj.cZ B n).length<=1048576) :
  Calls prog 124 #[.pointer (some ⟨r,0,none⟩),.slice q n c] w λe w'=>e = .returned .nilIface/\∃v',dG w' r v' (z++aj.cZ B n)/\Kept (r::v.ownBlock.toList) w w'/\jT w v v':=by
 by_cases H:n=0
 ·subst H;refine (Zl q c w ⟨r,0,none⟩).mono ?_;rintro e w' ⟨rfl,G⟩;exact⟨rfl,v,by rw[show aj.cZ B 0 = [] from rfl,append_nil];exact I.below G,Kept.of_below G,.inl rfl⟩
 ·rcases Q with h|⟨b,o,rfl,F⟩
  ·exact absurd h H
  ·exact Zm b o n c B w iK K (λi A=>(F i A).2) (λi A=>(F i A).1) J r v z I (O _ rfl) D R
theorem NV(w:World)(hF:Forms w)(hT:Tab w)(la:Option Addr)(n c:Nat)(T:Nat->Int)(B:Nat->Nat)(hP:zT w la n T B)(hn:n<=120)(ϲ:∀i,i<n -> -1099511627776<=T i/\T i<=1099511627776):
  Calls prog 83 #[.slice la n c] w λe w'=>e = .returned (.tuple #[.string ⟨(aj.pack (dP T B n)).toArray⟩,.nilIface])/\Below w.heap.size w w':=by
 have HP:Hid (zT w la n T B):=hP;have iD:=ϟ ϲ;have HF:Hid (Forms w):=hF;have HT:Hid (Tab w):=hT;have tK:=hF.lt;have ER:=hT.lt;go_enter func83,ntmps83;go_wp2_with fail;go_loopw [4,5,7,14] (λt u _ i wr=>∃(k:Nat) (O F:Value),k<=n/\i = .int .i64 k/\O=t/\F=u/\wr.ownsRow w.heap.size 3 1 O k (jA (mF T k))/\wr.ownsRow w.heap.size 91 1 F k (kU (kF B k))/\(∀g,O.ownBlock=some g->F.ownBlock≠some g)/\Below w.heap.size w wr) (λ_ _ _ i _=>n-(intOf i).toNat);case atStart=>exact⟨0,_,_,zero_le _,rfl,rfl,rfl,⟨rfl,.inl ⟨rfl,rfl⟩⟩,⟨rfl,.inl ⟨rfl,rfl⟩⟩,λg H=>by simp[Value.ownBlock] at H,Below.refl _ _⟩
 case round=>
  obtain⟨k,O,F,hk,rfl,rfl,rfl,A,J,ϕ,Y⟩:=hrel;by_cases ϥ:k<n
  ·obtain⟨lb,lo,rfl,Ϭ⟩:=HP.out.at k ϥ;obtain⟨ò,ë,hT0,hT1,hB⟩:=Ϭ k ϥ;have Ë:lb<w.heap.size:=World.block_lt_of_cell? w ⟨lb,_,none⟩ ò;have ϖ:=Mr T k;have hsu:=Ms B k;have arw:=(Y.cell (p:=⟨lb,_,none⟩) Ë).trans ò;have anj:=(Y.cell (p:=⟨lb,_,none⟩) Ë).trans ë;generalize T k=t at *;generalize B k=y at *;have ä:(0:Int)<=k:=iK;have ϓ:(k:Int)<n:=iK;obtain⟨i0,hi,î,ç,ï⟩:=info_parts Tryz.infoIntR;obtain⟨j0,D,hy0,hy1,hy2⟩:=info_parts Tryz.infoU64;have Ï:=Y.size;obtain⟨W,Z⟩:=dM (wr.alloc (.cells #[.int .i64 t,.int .u64 (y:Int)] 93));have Ö:W.heap.size=wr.heap.size+1:=by rw[Z];simp
   have Ϟ:W.heap[wr.heap.size]? = some (.cells #[.int .i64 t,.int .u64 (y:Int)] 93 (0,0)):=by rw[Z];exact heap_alloc_new _ _
   have ank:W.ownsRow w.heap.size 3 1 O k (jA (mF T k)):=by rw[Z];exact A.alloc _
   have WT:W.ownsRow w.heap.size 91 1 F k (kU (kF B k)):=by rw[Z];exact J.alloc _
   have anl:Below w.heap.size w W:=by rw[Z];exact Y.alloc Ï _
   have hvt:O.ownBlock≠some wr.heap.size:=λh=>by have:=(jl A _ h).1;omega
   have hvu:F.ownBlock≠some wr.heap.size:=λh=>by have:=(jl J _ h).1;omega
   have anm:((wr.alloc (.cells #[.int .i64 t,.int .u64 (y:Int)] 93)).alloc (.cells #[.int .i64 t] 3)).ownsRow w.heap.size 3 1 O k (jA (mF T k)):=(A.alloc _).alloc _;have HOT:=ϟ ank;have Zo:Hid (W.ownsRow w.heap.size 91 1 F k (kU (kF B k))):=WT;have UZ:=ϟ ϕ;have K:=ϟ anl;have HST:=ϟ ϖ;have HSU:=ϟ hsu;have HW1:=ϟ Z;have EU:=ϟ Ϟ;have HVT:=ϟ (λh=>hvt h:O.ownBlock=some wr.heap.size->False);go_wp2_with (at_builtin;refine wpList_append_lies _ rfl _ _ 35 rfl w.heap.size 3 i0 (.int .i64 0) 1 8 underlying35 hi î ç ï rfl ou _ _ _ rfl anm ⟨wr.heap.size+1,0,none⟩ 1 1 [.int .i64 t] rfl rfl ?c1 ?c2 iK ?c3 ?c4 ?c5 (wr.heap.size+2) vI ?_);try (case c1=>intro j u D;match j,D with|0,D=>simp at D;subst D;simp[Addr.add])
   case c2=>first|rfl|(intro u hu;simp at hu;subst hu;rfl)
   case c3=>unfold maxLen;omega
   case c4=>omega
   case c5=>first|omega|(simp;omega)
   intro g1 xu w1 Ã ϐ É hlt1;rw[<-HW1.out] at ϐ;have ώ:=FI K.out HOT.out ϐ;have WT:=UA (Zo.out.alloc _) ϐ (λg H h=>UZ.out g h H);have Ϥ:∀i,w1.cell? ⟨wr.heap.size,i,none⟩=(#[Value.int .i64 t,Value.int .u64 (y:Int)]:Array Value)[i]?:=by
    have G:w1.heap[wr.heap.size]? = some (.cells #[.int .i64 t,.int .u64 (y:Int)] 93 (0,0)):=by
     rw[ϐ.block wr.heap.size rP (λh=>HVT.out h.symm),Below.heap_alloc _ _ _ iK];exact EU.out
    exact ak G
   rw[FH,<-HST.out] at Ã;have hne1:F.ownBlock≠some g1:=by
    intro h;rcases É with G|G
    ·exact UZ.out g1 G h
    ·have:=(jl Zo.out g1 h).1;omega
   have anj:=Ϥ 1;have ano:(w1.alloc (.cells #[.int .u64 (y:Int)] 91)).ownsRow w.heap.size 91 1 F k (kU (kF B k)):=WT.alloc _;have Ö:=ώ.size;have anp:Hid (w1.ownsRow w.heap.size 3 1 (.slice (some ⟨g1,0,none⟩) (k+1) xu) (k+1) (jA (mF T (k+1)))):=Ã;have anq:=ϟ WT;have Q:=ϟ ώ;have ahg:=ϟ (λh=>hne1 h:F.ownBlock=some g1->False);have anr:=ϟ hlt1;go_wp2_with (at_builtin;refine wpList_append_lies _ rfl _ _ 156 rfl w.heap.size 91 j0 (.int .u64 0) 1 8 underlying156 D hy0 hy1 hy2 rfl ou _ _ _ rfl ano ⟨w1.heap.size,0,none⟩ 1 1 [.int .u64 (y:Int)] rfl rfl ?d1 ?d2 iK ?d3 ?d4 ?d5 (w1.heap.size+1) vI ?_);try (case d1=>intro j u D;match j,D with|0,D=>simp at D;subst D;simp[Addr.add])
   case d2=>first|rfl|(intro u hu;simp at hu;subst hu;rfl)
   case d3=>unfold maxLen;omega
   case d4=>omega
   case d5=>first|omega|(simp;omega)
   intro g2 cap2 w2 Õ o ant hlt2;have ϒ:=FI Q.out anq.out o;have anu:=UA (anp.out.alloc _) o (λg H h=>by
    simp[Value.ownBlock] at H;subst H;exact ahg.out h)
   rw[EG,<-HSU.out] at Õ;have hne2:∀g,(Value.slice (some ⟨g1,0,none⟩) (k+1) xu).ownBlock=some g->(Value.slice (some ⟨g2,0,none⟩) (k+1) cap2).ownBlock≠some g:=by
    intro g H h;simp[Value.ownBlock] at H h;subst H;rcases ant with G|G
    ·rw[h] at G;exact ahg.out G
    ·have:=anr.out;omega
   have anv:=ϟ anu;have anw:=ϟ Õ;have R:=ϟ ϒ;have anx:=ϟ hne2;go_wp2;go_roundw;case rel=>exact⟨k+1,_,_,iK,by go_num,rfl,rfl,anv.out,anw.out,anx.out,R.out⟩
   case measure=>simp[intOf]<;>omega
  ·have Ģ:k=n:=iK;subst Ģ;have anz:=jl A;have anB:=jl J;obtain⟨at_,ct,rfl,hI⟩:=abT A;obtain⟨au,cu,rfl,hU⟩:=abU J (λi hi=>by
    obtain⟨_,_,_,Ϭ⟩:=HP.out.at i hi;exact (Ϭ i hi).2.2.2.2)
   have HI:Hid (Ints wr at_ k T):=hI;have HU:Hid (DC wr au k B):=hU;have CX:=ϟ anz;have HLU:=ϟ anB;have K:=ϟ Y;have Ï:=Y.size;have hku:IntKind.u64.wrap (k:Int)=k:=IntWalk.u64_in _ iK;have ME:=ϟ (aff wr);go_wp2_with fail;refine Calls.mono ME.out ?_;rintro e w1 ⟨rfl,ϯ,ώ,Ö⟩;obtain⟨r,U⟩:=dM wr.heap.size;rw[<-U] at ϯ Ö Ï ⊢;have Cc:=ϟ (kV w1 r (.slice none 0 0) [] ϯ k 8 iK iK vI);have Q:=ϟ ώ;have q:=ϟ U;clear ME ϯ ώ U;go_wp2_with fail;refine Calls.mono Cc.out ?_;rintro e w2 ⟨rfl,v2,å,Ç,ϫ⟩;rw[nil_append] at å;have MF:Below r w1 w2:=Ç.below iK (λx I=>by simp[Value.ownBlock] at I;omega);have ź:=Q.out.trans (MF.mono (by have:=q.out;omega));have hsz2:r+1<=w2.heap.size:=by have:=MF.size;omega
   have hBw2:=K.out.trans (ź.mono K.out.size);have ϗ:=xg T k;have hlm:=aj.ug B k;have arx:(aj.bitsOf k 8).length=8:=aj.aG _ _;have qH:=(show Hid _ from YV w2 (HF.out.below hBw2 tK) r iK v2 (aj.bitsOf k 8) å at_ k ct T (HI.out.below ź) (λx I=>by
    have:=(CX.out x.block (by rw[I];rfl)).1;have:=q.out;omega) iK iD.out iK)
   have HR2:=ϟ å;have R:=ϟ ź;go_wp2_with fail;refine Calls.mono qH.out ?_;rintro e w3 ⟨rfl,v3,ε,ę,hg3⟩;have ahh:=ę.below iK (λx I=>HR2.out.CP x I);have V:=R.out.trans (ahh.mono (by have:=q.out;omega));have MG:r+1<=w3.heap.size:=by have:=ahh.size;omega
   have hBw3:=K.out.trans (V.mono K.out.size);have HMP:=(show Hid _ from acr w3 (HT.out.below hBw3 ER) au k cu B (HU.out.below V) iK r v3 (aj.bitsOf k 8++bS T k) ε (λx I hm=>by
    have G:=(HLU.out x.block (by rw[I];rfl)).1;have h2:=ε.CP _ hm;have:=q.out;omega) iK (by rw[length_append];omega))
   have HR3:=ϟ ε;have HB3:=ϟ V;go_wp2_with fail;refine Calls.mono HMP.out ?_;rintro e w4 ⟨rfl,v4,hr4,ř,hg4⟩;have anE:=ř.below iK (λx I=>HR3.out.CP x I);have hB4:=HB3.out.trans (anE.mono (by have:=q.out;omega));have anF:=K.out.trans (hB4.mono K.out.size);have CW:Hid (Calls prog 125 #[.pointer (some ⟨r,0,none⟩)] w4 λe w'=>e = .returned (.string ⟨(aj.pack (dP T B k)).toArray⟩)/\w'=w4):=YD w4 r v4 _ hr4;have bN:=ϟ anF;obtain⟨z,hz⟩:=dM (⟨(aj.pack (dP T B k)).toArray⟩:ByteArray);rw[<-hz] at CW;have HZ:=ϟ hz;go_wp2_with fail;refine Calls.mono CW.out ?_;rintro e w5 ⟨rfl,Iw⟩;have acs:=Iw.symm;subst acs;go_wp2;go_ret2;exact⟨by rw[<-HZ.out];rfl,bN.out⟩
theorem WU(w:World)(p:Addr):
  Calls prog 252 #[.pointer (some p),.int .i64 0] w λe w'=>e = .returned (.tuple #[.slice none 0 0,.nilIface])/\w'=w:=by
 go_enter func252,ntmps252;go_wp2;go_ret2;exact⟨rfl,rfl⟩
structure MRd(w wr:World)(x:Nat)(D:List Bool)(vs:List Nat)(u g cap:Nat)(eN eT:Value):Prop where
 read:aj.bP D vs.length=(0,vs,u)
 own:wr.ownsRow w.heap.size 91 1 (.slice (some ⟨g,0,none⟩) vs.length cap) vs.length (kU vs)
 gq:g≠w.heap.size+1
 vals:∀y,y∈vs->y<18446744073709551616
 rd:gP wr x (D.drop u)
 win:wr.heap[w.heap.size+1]? = some (.cells #[.int .i64 ((aj.aY (aj.vf vs) vs.length).2.1:Int),.int .i64 ((aj.bG (aj.aY (aj.vf vs) vs.length):Nat):Int)] 282 (0,0))
 kept:Kept [x] w wr
 tab:Tab wr
 noE:wr.cell? ⟨4,0,none⟩=some eN
 txE:wr.cell? ⟨1,0,none⟩=some eT
def ahj(w w':World)(x:Nat)(D:List Bool)(n:Nat)(aN aT:Addr)(e:Ending):Prop:=
 Kept [x] w w'/\((∃(vs:List Nat) (u:Nat) (v:Value),aj.bP D n=(0,vs,u)/\e = .returned (.tuple #[v,.nilIface])/\vs.length=n/\w'.ownsRow w.heap.size 91 1 v n (kU vs)/\(∀y,y∈vs->y<18446744073709551616)/\gP w' x (D.drop u)) \/
  (aj.bP D n=(5,[],0)/\e = .returned (.tuple #[.slice none 0 0,.iface 397 (.pointer (some aN))])) \/
  (aj.bP D n=(1,[],0)/\e = .returned (.tuple #[.slice none 0 0,.iface 397 (.pointer (some aT))])))
theorem aee(o:List Nat)(h:∀y,y∈o->y<18446744073709551616)(i:Nat)(q:i<o.length):aj.vf o i<18446744073709551616:=by
 have:aj.vf o i=o[i]:=by simp[aj.vf,List.getElem?_eq_getElem q]
 rw[this];exact h _ (getElem_mem _)
theorem Zp(w:World)(x:Nat)(D:List Bool)(h:gP w x D)(MB:Tab w)(n:Nat)(Ú:1<=n)(hn:n<=120)(Z aT:Addr)(hN:w.cell? ⟨4,0,none⟩=some (.iface 397 (.pointer (some Z))))(hT:w.cell? ⟨1,0,none⟩=some (.iface 397 (.pointer (some aT))))(EO:4<x)(Iz:1<x)(ET:16<x):
  Calls prog 252 #[.pointer (some ⟨x,0,none⟩),.int .i64 (n:Int)] w λe w'=>ahj w w' x D n Z aT e:=by
 have ð:=h.lt;have hd0:decide ((n:Int)<0)=false:=vI;have Ŧ:decide (120<(n:Int))=false:=rP;have Ś:((n:Int)==0)=false:=wK;by_cases h64:64<=D.length
 ·have Ò:=Ec w x D h 64 iK h64;have U:=aj.Cy D h64;have æ:aj.aW (D.take 64)<18446744073709551616:=by
   have:=aj.nJ (D.take 64);rwa [length_take,Nat.min_eq_left h64] at this
  generalize aj.aW (D.take 64)=v0 at *;have iX:=ϟ Ò;have HN:=ϟ hN;have HT:=ϟ hT;have CV:=ϟ MB;have U0:=ϟ U;go_enter func252,ntmps252;go_wp2_with fail;refine Calls.mono iX.out ?_;rintro e w1 ⟨rfl,ϯ,ϓ,Ö⟩;have HR1:=ϟ ϯ;have H:=ϟ ϓ;go_wp2_with fail;obtain⟨wa,bT⟩:=dM ((w1.alloc (.cells #[.int .u64 (v0:Int)] 91)).alloc (.cells #[.int .i64 0,.int .i64 0] 282));have È:Kept [] w1 wa:=by rw[bT];exact ((Kept.refl _ _).alloc _).alloc _
  have Ŵ:wa.heap.size=w.heap.size+2:=by rw[bT];simp;omega
  have Š:MRd w wa x D [v0] 64 w.heap.size 1 (.iface 397 (.pointer (some Z))) (.iface 397 (.pointer (some aT))):=by
   refine⟨U0.out,⟨rfl,.inr ⟨w.heap.size,1,#[.int .u64 (v0:Int)],rfl,le_refl _,?_,le_refl _,by unfold maxLen;omega,rfl,rfl⟩⟩,iK,?_,HR1.out.jX È (λb J=>by cases J),?_,H.out.trans È (λz F=>by cases F),λj Q=>È.cell (H.out.cell (CV.out j Q) rP) vI,È.cell (H.out.cell HN.out rP) vI,È.cell (H.out.cell HT.out rP) vI⟩
   ·rw[bT,Below.heap_alloc _ _ _ rP,<-Ö];exact heap_alloc_new _ _
   ·intro y O;simp at O;rw[O];exact æ
   ·rw[bT];have:=heap_alloc_new (w1.alloc (.cells #[.int .u64 (v0:Int)] 91)) (.cells #[.int .i64 0,.int .i64 0] 282);rw[World.size_alloc,Ö] at this;rw[this];show some _=some (Obj.cells #[.int .i64 ((aj.aY (aj.vf [v0]) 1).2.1:Int),.int .i64 ((aj.bG (aj.aY (aj.vf [v0]) 1):Nat):Int)] 282 (0,0));rw[aj.qx];rfl
  rw[<-bT];have IK:=ϟ Š;go_loopw [6,8,10,11,12] (λval sl _ _ _ wr=>∃(o:List Nat) (u g V:Nat),1<=o.length/\o.length<=n/\val = .int .u64 ((aj.vf o (o.length-1):Nat):Int)/\sl = .slice (some ⟨g,0,none⟩) o.length V/\MRd w wr x D o u g V (.iface 397 (.pointer (some Z))) (.iface 397 (.pointer (some aT)))) (λ_ sl _ _ _ _=>n-(match sl with | .slice _ k _=>k|_=>0));case atStart=>exact⟨[v0],64,w.heap.size,1,le_refl _,Ú,rfl,rfl,IK.out⟩
  case round=>
   obtain⟨o,u,g,V,Ī,ê,rfl,rfl,I⟩:=hrel;by_cases ϗ:o.length<n
   ·have hvf:=aee o I.vals;have hwo:=uG (aj.vf o) o.length hvf o.length (le_refl _);have ĭ:=Pd (aj.aY (aj.vf o) o.length) hwo wr x (D.drop u) I.rd I.tab Z aT I.noE I.txE EO Iz ET;have ļ:=I.win;have Ϫ:∀c,c≠0->(∀p,aj.cO (aj.aY (aj.vf o) o.length) p (D.drop u)=(c,0,0))->aj.bP D n=(c,[],0):=λc hc hs=>
     aj.zQ D (o.length+1) c hc (aj.PO D o.length u o _ _ c iK I.read rfl rfl (hs _) hc) n iK
    have ķ:∀X b,(∀p,aj.cO (aj.aY (aj.vf o) o.length) p (D.drop u)=(0,p ^^^ X,b))->aj.bP D (o.length+1)=(0,o ++ [aj.vf o (o.length-1) ^^^ X],u+b):=λX b hs=>
     aj.EA D o.length u o _ _ _ b iK I.read rfl rfl (hs _)
    have hnext:∀X,aj.aY (aj.vf (o ++ [aj.vf o (o.length-1) ^^^ X])) (o.length+1)=aj.eG (aj.aY (aj.vf o) o.length) X:=λX=>(aj.Td o X iK).2
    have HBAD:=ϟ Ϫ;have KN:=ϟ ķ;have akn:=ϟ hnext;obtain⟨k,hk⟩:=eD o.length;obtain⟨p,hp⟩:=eD (aj.vf o (o.length-1));have đ:p<18446744073709551616:=by rw[<-hp];exact hvf _ iK
    obtain⟨L,hL⟩:=eD ((aj.aY (aj.vf o) o.length).2.1);obtain⟨Wd,hWd⟩:=eD (aj.bG (aj.aY (aj.vf o) o.length));rw[hL,hWd] at ĭ ļ;rw[hp];have q0:=ak ļ 0;have q1:=ak ļ 1;unfold jW at ĭ;have FY:=ϟ ĭ;have A:=ϟ I;have QF:=ϟ ļ;have HP:=ϟ hp;have Ni:(k:Int)<n:=iK;rw[hk];have R:=ϟ hk;go_wp2_with fail;refine Calls.mono FY.out ?_;rintro e w1 ⟨ϓ,ϸ⟩;have ϋ:=(ϓ.block _ (lt_of_block QF.out) rP).trans QF.out;have arA:=lt_of_block ϋ;rcases ϸ with⟨X,b,yD,ϖ,rfl,ϯ⟩|⟨ϖ,rfl⟩|⟨ϖ,rfl⟩
    ·have Ć:=KN.out X b ϖ;have hnx:=akn.out X;rw[HP.out] at Ć hnx;have aco:=u64_xor_nat p X đ yD;have hzl:=aj.zO p X đ yD;obtain⟨z,F⟩:=eD (p ^^^ X);rw[F] at Ć hnx aco hzl;rw[<-hnx];obtain⟨U2,hU2⟩:=eD (aj.aY (aj.vf (o ++ [z])) (o.length+1));rw[hU2];obtain⟨y,O⟩:=eD (aj.fu (aj.aY (aj.vf o) o.length) X);obtain⟨L2,hL2⟩:=eD U2.2.1;obtain⟨W2,υ⟩:=eD (aj.bG U2);rw[O,hL2,υ];unfold dV;have z0:=ak ϋ 0;have z1:=ak ϋ 1;have y0:=aA ϋ 0;have y1:=aA ϋ 1;have W:=ϟ ϖ;have kN:=ϟ Ć;have HR1:=ϟ ϯ;have H:=ϟ ϓ;have eX:=ϟ ϋ;have HU2:=ϟ hU2;have HL2:=ϟ hL2;have HW2:=ϟ υ;obtain⟨w2,Æ⟩:=dM ((w1.setCell ⟨w.heap.size+1,0,none⟩ (.int .i64 (L2:Int))).setCell ⟨w.heap.size+1,1,none⟩ (.int .i64 (W2:Int)));have Ç:Kept [w.heap.size+1] w1 w2:=by rw[Æ];exact ((Kept.refl _ _).setCell (.inl vI) _).setCell (.inl vI) _
     have η:w2.heap.size=w1.heap.size:=by rw[Æ];simp
     have Μ:g≠x:=by
      have:=A.out.own.2;rcases this with⟨h,_⟩|⟨g',cap',cur,h,hg',_⟩
      ·cases h
      ·cases h;omega
     have Õ:w2.ownsRow w.heap.size 91 1 (.slice (some ⟨g,0,none⟩) o.length V) o.length (kU o):=
      vW (vW A.out.own H.out (λb J=>by simp[Value.ownBlock] at J;subst J;simpa using Μ)) Ç (λb J=>by simp[Value.ownBlock] at J;subst J;simpa using A.out.gq)
     have akp:w2.heap[w.heap.size+1]? = some (.cells #[.int .i64 (L2:Int),.int .i64 (W2:Int)] 282 (0,0)):=by
      rw[Æ,heap_set (heap_set eX.out 0 _) 1 _];rfl
     obtain⟨Y,ĕ⟩:=dM ((w2.alloc (.cells #[.int .i64 (y:Int),.int .i64 (L2:Int),.int .i64 (W2:Int)] 284)).alloc (.cells #[.int .u64 (z:Int)] 91));have ę:Kept [] w2 Y:=by rw[ĕ];exact ((Kept.refl _ _).alloc _).alloc _
     have hs3:Y.heap.size=w1.heap.size+2:=by rw[ĕ];simp;omega
     have č:=vW Õ ę (λb J=>vI);have hm3:∀G:World,Kept [] Y G\/Kept [g] Y G->Kept [x] w G/\gP G x ((D.drop u).drop b)/\G.heap[w.heap.size+1]? = some (.cells #[.int .i64 (L2:Int),.int .i64 (W2:Int)] 282 (0,0))/\Tab G/\G.cell? ⟨4,0,none⟩=some (.iface 397 (.pointer (some Z)))/\G.cell? ⟨1,0,none⟩=some (.iface 397 (.pointer (some aT))):=by
      intro G h4;have Ŏ:w.heap.size<=g:=by
       have:=A.out.own.2;rcases this with⟨h,_⟩|⟨g',cap',cur,h,hg',_⟩
       ·cases h
       ·cases h;exact hg'
      have h4':Kept [g] Y G:=by
       rcases h4 with h4|h4
       ·exact h4.none
       ·exact h4
      have K:Kept [w.heap.size+1,g] w1 G:=by
       have a1:Kept [w.heap.size+1,g] w1 w2:=Ç.trans (T:=[]) (Kept.refl _ _) (λz F=>by cases F) |> λh=>⟨h.os,h.tape,h.output,h.size,λb J I=>h.block b J (λhh=>I (by simp at hh;subst hh;simp))⟩
       exact (a1.trans ę (λz F=>by cases F)).trans h4' (λz F=>.inl (by simp at F;subst F;simp))
      have QK:=HR1.out.jX K (λb J=>by simp at J;omega);refine⟨(A.out.kept.trans H.out (λz F=>.inl F)).trans K (λz F=>.inr (by simp at F;omega)),QK,?_,λj Q=>K.cell (H.out.cell (A.out.tab j Q) rP) rP,K.cell (H.out.cell A.out.noE rP) rP,K.cell (H.out.cell A.out.txE (by intro À;simp only[mem_cons,not_mem_nil,or_false] at À;omega)) (by intro À;simp only[mem_cons,not_mem_nil,or_false] at À;omega)⟩;rw[h4'.block _ iK (by simpa using λh=>A.out.gq h.symm),ę.block _ iK vI];exact akp
     obtain⟨i0,hi,î,ç,ï⟩:=info_parts Tryz.infoU64;rw[ĕ,Æ,R.out] at č;have IL:=ϟ hm3;have HW3:Hid (Y=((((w1.setCell ⟨w.heap.size+1,0,none⟩ (.int .i64 (L2:Int))).setCell ⟨w.heap.size+1,1,none⟩ (.int .i64 (W2:Int))).alloc (.cells #[.int .i64 (y:Int),.int .i64 (L2:Int),.int .i64 (W2:Int)] 284)).alloc (.cells #[.int .u64 (z:Int)] 91))):=by rw[<-Æ];exact ĕ
     have Ϲ:Y.cell? ⟨w1.heap.size+1,0,none⟩=some (.int .u64 (z:Int)):=by
      have h5:=heap_alloc_new (w2.alloc (.cells #[.int .i64 (y:Int),.int .i64 (L2:Int),.int .i64 (W2:Int)] 284)) (.cells #[.int .u64 (z:Int)] 91);rw[World.size_alloc,η,<-ĕ] at h5;exact ak h5 0
     rw[ĕ,Æ] at Ϲ;have iV:=ϟ Ϲ;have aqY:k<=120:=by have:=R.out;omega
     go_wp2_with (at_builtin;refine wpList_append_lies _ rfl _ _ 156 rfl w.heap.size 91 i0 (.int .u64 0) 1 8 underlying156 hi î ç ï rfl ou _ _ _ rfl č ⟨w1.heap.size+1,0,none⟩ 1 1 [.int .u64 (z:Int)] rfl rfl ?c1 ?c2 iK ?c3 ?c4 ?c5 (w1.heap.size+2) vI ?_);case c1=>
      intro j u Q;match j,Q with
      | 0,Q=>
       simp at Q;subst Q;rw[addr_add];exact iV.out
     try (case c2=>first|rfl|(intro u hu;simp at hu;subst hu;rfl))
     case c3=>unfold maxLen;omega
     case c4=>omega
     case c5=>first|omega|(simp;omega)
     intro g1 xu G KW ϐ É arB;have ř:Kept [g] Y G:=by rw[HW3.out];exact Kept.grown ϐ (λj Q=>by simp[Value.ownBlock] at Q;subst Q;simp)
     obtain⟨f1,f2,f3,f4,f5,f6⟩:=IL.out G (.inr ř);have ϑ:(o ++ [z]).length=k+1:=by rw[length_append,R.out];rfl
     rw[EG] at KW;have hm4:MRd w G x D (o ++ [z]) (u+b) g1 xu (.iface 397 (.pointer (some Z))) (.iface 397 (.pointer (some aT))):=by
      refine⟨?_,?_,?_,?_,?_,?_,f1,f4,f5,f6⟩
      ·rw[ϑ,<-R.out];exact kN.out
      ·rw[ϑ];exact KW
      ·rcases É with h|h
       ·simp[Value.ownBlock] at h;subst h;exact A.out.gq
       ·omega
      ·intro y O;rcases mem_append.1 O with O|O
       ·exact A.out.vals y O
       ·simp at O;rw[O];exact hzl
      ·rw[drop_drop] at f2;exact f2
      ·rw[ϑ,<-R.out,HU2.out,HL2.out,HW2.out];exact f3
     have hvz:aj.vf (o ++ [z]) (k+1-1)=z:=by
      rw[show k+1-1=o.length by rw[R.out];omega];exact aj.Un o z
     have HM4:=ϟ hm4;have mG:=ϟ ϑ;have HVZ:=ϟ hvz;go_wp2_with fail;go_roundw;case rel=>exact⟨o ++ [z],u+b,g1,xu,by rw[mG.out];omega,by rw[mG.out];omega,by rw[mG.out,HVZ.out],by rw[mG.out],HM4.out⟩
     case measure=>simp;omega
    ·have W:=ϟ (HBAD.out 5 ou ϖ);have uS:=ϟ (A.out.kept.trans ϓ (λz F=>.inl F));unfold dV;go_wp2;go_ret2;exact⟨uS.out.alloc _,.inr (.inl ⟨W.out,rfl⟩)⟩
    ·have W:=ϟ (HBAD.out 1 ou ϖ);have uS:=ϟ (A.out.kept.trans ϓ (λz F=>.inl F));unfold dV;go_wp2;go_ret2;exact⟨uS.out.alloc _,.inr (.inr ⟨W.out,rfl⟩)⟩
   ·have hk:o.length=n:=iK;have A:=ϟ I;rw[hk];have R:=ϟ hk;go_wp2;go_ret2;refine⟨A.out.kept,.inl ⟨o,u,_,by rw[<-R.out];exact A.out.read,rfl,R.out,by have:=A.out.own;rw[R.out] at this;exact this,A.out.vals,A.out.rd⟩⟩
 ·have Ò:=zH w x D h 64 Z hN iK iK;have U:=aj.zQ D 1 5 ou (aj.Fj D iK) n Ú;have iX:=ϟ Ò;have U0:=ϟ U;clear Ò hN hT MB U h;go_enter func252,ntmps252;go_wp2_with fail;refine Calls.mono iX.out ?_;rintro e w1 ⟨rfl,q,ϙ⟩;have H:Hid (Kept [x] w w1):=by rw[ϙ];exact (Kept.refl _ _).draws q
  clear ϙ iX;go_wp2;go_ret2;exact⟨H.out,.inr (.inl ⟨U0.out,rfl⟩)⟩
end Go.Proofs.YtnjmhjdhfaboaaaGreatDoor
