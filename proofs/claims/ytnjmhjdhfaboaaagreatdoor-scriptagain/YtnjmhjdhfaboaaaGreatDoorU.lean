import Derived.Shelf.RegionOpen
import Derived.Test.YtnjmhjdhfaboaaaGreatDoorT
import Derived.OwnWalkIn
import Derived.LoopNIn
import Derived.LoopIn
import Derived.RangeFuncNested
import Derived.RangeFuncBound
set_option maxRecDepth 1000000
set_option maxHeartbeats 4000000
open Nat (le_refl lt_or_ge zero_le)
open List
open Go.Proofs.Tryz
namespace Go.Proofs.YtnjmhjdhfaboaaaGreatDoor
open Go.RowKit
theorem Ϣ{p:Prop}(h:p):Go.RowKit.Hid p:=h
variable {P:Program}
def roundEnd(R:World->Prop):Exit->Act->World->Prop
 | .normal,_,W=>R W
 | _,_,_=>False
def Rounds(P:Program)(gf:Nat)(lb:Array Value)(encs:Nat->Array Value)(m:Nat)(Pr:List Nat)(w:World):Prop:=
 ∀(l:Nat) (J:Nat->List Nat->World->Prop) (S0:List Nat) (W:World),Below w.heap.size w W ->
  (∀k S A,J k S A->∀b,b∈S->b<A.heap.size) ->
  (∀k S A B,J k S A->Kept [W.heap.size] A B->W.heap.size∉S->J k S B) ->
  (∀k S A,1<=k->k<m->J k S A->YieldAt Fence.wide 0 P l (encs k) A λe A'=>e = .returned (.bool true)/\∃S',J (k+1) S' A'/\Kept S A A'/\∀b,b∈S'->b∈S\/A.heap.size<=b) ->
  J 1 S0 W->(∀b,b∈S0->b∉Pr) ->
  CallsIn Fence.wide 0 P gf (#[.func (.yield l) #[] #[]]++lb) W λe W'=>(∃v,e = .returned v)/\∃S',J m S' W'
theorem Kept.put{S:List Nat}{A W:World}(h:Kept S A W)(l:Nat)(o:Obj)(q:l∈S\/A.heap.size<=l):Kept S A (W.putObj l o):=
 h.trans (T:=[l]) ⟨rfl,rfl,rfl,rQ,λk _ z=>World.putObj_heap_other (by simpa using z)⟩ (λx j=>by simp at j;subst j;exact q)
theorem FV{g:Operand}{ps:Array Tmp}{assign body:Code}{Q:Exit->Act->World->Prop}{a:Act}{w:World}{gf:Nat}{lb:Array Value}
  (hg:a.eval g = .func (.func gf) #[] lb) (eg:∀args w,(callFunc gf args).run P w = .ok (.enter gf args) w)
  (m:Nat) (q:Nat->Array Value) (υ:∀k,(q k).size=ps.size) (Pr:List Nat) (hPr:∀b,b∈Pr->b<w.heap.size) (Ŷ:Rounds P gf lb q m Pr w)
  (I:Nat->List Nat->World->Prop) (ϗ:∀k S A,I k S A->∀b,b∈S->b<A.heap.size)
  (hI:∀k S T A B,I k S A->Kept T A B->(∀b,b∈T->b∉S/\w.heap.size<=b)->I k S B)
  (V:List Nat) (h0:I 1 V w) (ĭ:∀b,b∈V->b∉Pr) (Fm:Nat->Obj) (J:Nat->Nat->Act)
  (œ:∀(l k:Nat) (W:World) (K:Act->World->Prop),K (J k W.heap.size) (W.alloc (Fm k)) ->
   assign.wpIn (Fence.wide.inRound l) 0 P (Exit.then K (λ_ _ _=>False)) { tmps:=(ps.zip (q k)).foldl (λt (p,v)=>t.setIfInBounds p v) a.tmps,defers:=[] } W)
  (Y:∀(l k:Nat) (S:List Nat) (W:World) (p:Nat),1<=k->k<m->I k S W->W.heap[p]? = some (Fm k)->p∉S ->
   body.wpIn (Fence.wide.inRound l) 0 P (roundEnd λW'=>∃H,I (k+1) H W'/\Kept S W W'/\∀b,b∈H->b∈S\/W.heap.size<=b) (J k p) W)
  (Z:∀(D:Nat) (S:List Nat) (W:World),w.heap.size<=D->I m S W->D∉S->W.heap[D]? = some (.deferred (some []))->Q .normal { a with defers:={ target:=.collected D,args:=#[] }::a.defers } W) :
  (Code.rangeFunc g ps assign body).wp P Q a w:=by
 refine (wpIn_wide (n:=0)).1 (wpIn_rangeFunc ?_);intro fn ŋ;obtain⟨o,à⟩:∃o:LoopState->Loop,o=λst=>{ state:=st,pending:=none,fn,tmps:=a.tmps,params:=ps,assign,body,defers:=w.heap.size }:=⟨_,rfl⟩
 obtain⟨F,ä⟩:=bF ((w.alloc (.deferred (some []))).alloc (.loop (o .ready)));have Õ:F.heap.size=w.heap.size+2:=by rw[ä];simp
 have hL1:F.heap[w.heap.size+1]? = some (.loop (o .ready)):=by
  rw[ä];have:=World.alloc_heap_new (w.alloc (.deferred (some []))) (.loop (o .ready));rwa [World.size_alloc] at this
 have ĕ:F.heap[w.heap.size]? = some (.deferred (some [])):=by
  rw[ä];exact (Below.heap_alloc _ _ _ rQ).trans (World.alloc_heap_new w _)
 have ϓ:Kept [] w F:=by rw[ä];exact ((Kept.refl _ _).alloc _).alloc _
 have ώ:Below w.heap.size w F:=by rw[ä];exact ((Below.refl _ w).alloc (le_refl _) _).alloc rQ _
 refine⟨w.heap.size+1,[{ target:=.collected w.heap.size,args:=#[] }],F,{ target:=.fn (.func gf) lb,args:=#[.func (.yield (w.heap.size+1)) #[] #[]] },F,gf,
  #[.func (.yield (w.heap.size+1)) #[] #[]]++lb,F,?_,?_,?_,?_,λh=>by simp[Fence.wide] at h,?_⟩
 ·rw[ä,à];exact run_enterLoop_outer _ _ _ _ _
 ·simp only[resolve,hg];simp[go_sem]
 ·intro f' _;trivial
 ·simp[invoke,go_sem,eg]
 ·refine CallsIn.mono (Ŷ (w.heap.size+1) (λk H W=>∃S,H=(w.heap.size+1)::S/\I k S W/\W.heap[w.heap.size+1]? = some (.loop (o .ready))/\W.heap[w.heap.size]? = some (.deferred (some []))/\w.heap.size+1∉S/\w.heap.size∉S)
   ((w.heap.size+1)::V) F ώ ?_ ?_ ?_ ?_ ?_) ?_
  ·rintro k H A ⟨S,rfl,O,z,hd,R,Ŕ⟩ b j;rcases mem_cons.1 j with rfl|j
   ·exact (Array.getElem?_eq_some_iff.1 z).1
   ·exact ϗ k S A O b j
  ·rintro k H A B ⟨S,rfl,O,z,hd,R,Ŕ⟩ hk hq;rw[Õ] at hk hq;have Ĭ:=(Array.getElem?_eq_some_iff.1 z).1;refine⟨S,rfl,hI k S _ A B O hk (λb j=>?_),(hk.block _ Ĭ rQ).trans z,(hk.block _ fM rQ).trans hd,R,Ŕ⟩;simp at j;subst j;exact⟨λh=>hq (mem_cons_of_mem _ h),fM⟩
  ·rintro k H A Xf ú ⟨S,rfl,O,z,hd,R,Ŕ⟩;have Ĭ:=(Array.getElem?_eq_some_iff.1 z).1;have hy:=run_yield (P:=P) (args:=q k) z (by rw[à];exact υ k);rw[à] at hy;refine⟨fn,_,assign,body,hy,roundIn_of_wpIn ŋ (œ _ k A _ ?_)⟩;have Ĵ:(A.alloc (Fm k)).heap[w.heap.size+1]? = some (.loop (o .ready)):=(Below.heap_alloc _ _ _ Ĭ).trans z;refine⟨_,run_beginRound Ĵ (by rw[à]),?_⟩;obtain⟨U,yu⟩:=bF ((A.alloc (Fm k)).putObj (w.heap.size+1) (.loop { o .ready with state:=.busy }));rw[<-yu];have κ:Kept [w.heap.size+1] A U:=by rw[yu];exact ((Kept.refl _ _).alloc _).put _ _ (.inl rQ)
   have hsb:U.heap.size=A.heap.size+1:=by rw[yu];simp
   have Ì:U.heap[w.heap.size+1]? = some (.loop { o .ready with state:=.busy }):=by rw[yu];exact World.putObj_heap_same qz
   have Ζ:=hI k S _ A U O κ (λb j=>by simp at j;subst j;exact⟨R,fM⟩);have ĺ:U.heap[A.heap.size]? = some (Fm k):=by rw[yu,World.putObj_heap_other fM];exact World.alloc_heap_new _ _
   refine wpIn_mono (Y _ k S U A.heap.size Xf ú Ζ ĺ (λh=>by have:=ϗ k S A O _ h;omega)) ?_;rintro e a3 W3 G;cases e with
   | normal=>
    obtain⟨S3,hi3,Ġ,hn3⟩:=G;have hl3:=(Ġ.block _ fM R).trans Ì;have hs3:=Ġ.size;have ahr:w.heap.size+1∉S3:=λh=>by rcases hn3 _ h with h|h;exact R h;omega
    have anr:w.heap.size∉S3:=λh=>by rcases hn3 _ h with h|h;exact Ŕ h;omega
    refine⟨_,_,run_endRound (P:=P) none hl3,rfl,(w.heap.size+1)::S3,⟨S3,rfl,?_,?_,?_,ahr,anr⟩,?_,?_⟩
    ·exact hI (k+1) S3 [w.heap.size+1] W3 _ hi3 ((Kept.refl _ _).put _ _ (.inl rQ)) (λb j=>by simp at j;subst j;exact⟨ahr,fM⟩)
    ·rw[World.putObj_heap_same fM,à];rfl
    ·rw[World.putObj_heap_other fM,Ġ.block _ fM Ŕ,κ.block _ fM rQ];exact hd
    ·have h1:Kept ((w.heap.size+1)::S) A U:=⟨κ.os,κ.tape,κ.output,κ.size,λb j hm=>κ.block b j (λh=>hm (by simp at h;subst h;simp))⟩;exact (h1.trans Ġ (λx hx=>.inl (mem_cons_of_mem _ hx))).put _ _ (.inl rQ)
    ·intro b j;rcases mem_cons.1 j with rfl|j
     ·exact .inl rQ
     ·rcases hn3 b j with h|h
      ·exact .inl (mem_cons_of_mem _ h)
      ·exact .inr fM
   | ret=>exact G.elim
   | exit id=>exact G.elim
   | goto t=>exact G.elim
   | panic ch=>exact G.elim
   | outgrown=>exact G.elim
  ·refine⟨V,rfl,hI 1 V [] w F h0 ϓ (λb j=>by cases j),hL1,ĕ,?_,?_⟩
   ·intro h;have:=ϗ 1 V w h0 _ h;omega
   ·intro h;have:=ϗ 1 V w h0 _ h;omega
  ·intro b j G;rcases mem_cons.1 j with rfl|j
   ·have:=hPr _ G;omega
   ·exact ĭ b j G
  ·rintro e W2 ⟨⟨v,rfl⟩,H,S,rfl,O,z,hd,R,Ŕ⟩;have Ĭ:=(Array.getElem?_eq_some_iff.1 z).1;refine⟨none,_,by have:=run_endLoop (P:=P) z (by rw[à];simp);rw[à] at this;exact this,Z _ S _ (le_refl _) ?_ Ŕ ((World.putObj_heap_other fM).trans hd)⟩;exact hI m S [w.heap.size+1] W2 _ O ((Kept.refl _ _).put _ _ (.inl rQ)) (λb j=>by simp at j;subst j;exact⟨R,fM⟩)
open Go.Shelf
attribute [local go_sem] Oper.semAt_some
theorem IW(j:Option Addr)(m c:Nat)(w:World):
  Calls prog 173 #[.slice j m c] w λe w'=>e = .returned (.func (.func 214) #[] #[.pointer (some ⟨w.heap.size,0,none⟩)])/\w'=w.alloc (.cells #[.slice j m c] 156):=by
 go_enter func173,ntmps173;go_wp2;go_ret;exact⟨rfl,rfl⟩
def pO(V:Nat->Nat)(k:Nat):Nat:=V k ^^^ V (k-1)
def qG(V:Nat->Nat)(k:Nat):Value:=dS (aj.fu (aj.aZ V k) (pO V k)) (aj.aZ V (k+1)).2.1 (aj.bG (aj.aZ V (k+1)))
def xB(V:Nat->Nat)(k:Nat):Array Value:=#[qG V k,.int .u64 (pO V k:Int)]
structure MI(wr:World)(Bn lb lo m c:Nat)(V:Nat->Nat)(q k:Nat):Prop where
 box:wr.cell? ⟨Bn,0,none⟩=some (.slice (some ⟨lb,lo,none⟩) m c)
 vals:∀i,i<m->wr.cell? ⟨lb,lo+i,none⟩=some (.int .u64 (V i:Int))
 tab:Tab wr
 win:wr.heap[q]? = some (.cells #[.int .i64 ((aj.aZ V k).2.1:Int),.int .i64 ((aj.bG (aj.aZ V k):Nat):Int)] 282 (0,0))
theorem MI.kept{wr o:World}{A lb D m c:Nat}{V:Nat->Nat}{q k:Nat}(h:MI wr A lb D m c V q k){S:List Nat}(z:Kept S wr o)(F:A∉S)(G:lb∉S)(H:16∉S)(I:q∉S):MI o A lb D m c V q k:=
 ⟨z.cell h.box F,λi J=>z.cell (h.vals i J) G,λj K=>z.cell (h.tab j K) H,(z.block q (lt_of_block h.win) I).trans h.win⟩
theorem uK(V:Nat->Nat)(n:Nat)(j:∀i,i<n->V i<18446744073709551616):∀k,k<=n->aj.uz (aj.aZ V k)
 | 0,_=>by simp[aj.aZ,aj.uz]
 | k+1,h=>by
  by_cases o:k=0
  ·subst o;rw[aj.qC];simp[aj.uz]
  ·rw[aj.nZ V k o];exact aj.Xg (uK V n j k fM) _ (aj.zO _ _ (j k fM) (j (k-1) fM))
theorem BD(G lb R m c:Nat)(V:Nat->Nat)(w:World)(Ę:1<=m)(hm:m<=1000)(hV:∀i,i<m->V i<18446744073709551616)
  (JE:w.cell? ⟨G,0,none⟩=some (.slice (some ⟨lb,R,none⟩) m c)) (xS:∀i,i<m->w.cell? ⟨lb,R+i,none⟩=some (.int .u64 (V i:Int))) (hT:Tab w) :
  Rounds prog 214 #[.pointer (some ⟨G,0,none⟩)] (xB V) m [G,lb,16] w:=by
 intro l J S0 W Ϗ ahB hJk hJy hJ0 ĭ;have hBn:=lt_of_cell JE;have Ì:=lt_of_cell (xS 0 Ę);have ZO:=Ϗ.size;have aeh:=(Ϗ.cell (p:=⟨G,0,none⟩) hBn).trans JE;have ahC:∀i,i<m->W.cell? ⟨lb,R+i,none⟩=some (.int .u64 (V i:Int)):=λi H=>(Ϗ.cell (p:=⟨lb,R+i,none⟩) Ì).trans (xS i H)
 have hTW:=hT.below Ϗ hT.lt;have hG:=hT.lt;obtain⟨wa,bT⟩:=bF (W.alloc (.cells #[.int .i64 0,.int .i64 0] 282));have É:Kept [W.heap.size] W wa:=by rw[bT];exact (Kept.refl _ _).alloc _
 have ŵ:wa.heap.size=W.heap.size+1:=by rw[bT];simp
 have ahD:W.heap.size∉S0:=λh=>by have:=ahB 1 S0 W hJ0 _ h;omega
 have hIt:MI wa G lb R m c V W.heap.size 1:=by
  refine⟨É.cell aeh qz,λi H=>É.cell (ahC i H) qz,λj hj=>É.cell (hTW j hj) qz,?_⟩;rw[bT,aj.qC];exact heap_alloc_new _ _
 have z:=Ϣ hIt;have HJA:=Ϣ (hJk 1 S0 W wa hJ0 É ahD);have anz:=Ϣ ahB;have Z:=Ϣ hJk;have HJy:=Ϣ hJy;have lW:Hid (∀wx,wx=W.alloc (.cells #[.int .i64 0,.int .i64 0] 282)->wx=wa):=λwx h=>h.trans bT.symm
 have KY:Hid (∀b,b∈S0->b ∉ [G,lb,16]/\b≠W.heap.size):=λb U=>⟨ĭ b U,λe=>ahD (e ▸ U)⟩
 have HV:=Ϣ hV;refine callsIn_of_wp func214 rfl trivial ?_ rfl;simp only[ntmps214,size_toArray,length_cons,length_nil,Nat.reduceAdd,Nat.reduceSub,Array.replicate_succ,Array.replicate_zero,push_toArray,append_toArray,nil_append,cons_append];gi_wp2;rw[lW.out _ rfl];gi_loopw [4,5,6] (λi _ _ wr=>∃(k:Nat) (S:List Nat),1<=k/\k<=m/\i = .int .i64 k/\J k S wr/\(∀b,b∈S->b ∉ [G,lb,16]/\b≠W.heap.size)/\MI wr G lb R m c V W.heap.size k) (λi _ _ _=>m-(intOf i).toNat);case atStart=>exact⟨1,S0,le_refl _,Ę,rfl,HJA.out,KY.out,z.out⟩
 case round=>
  obtain⟨k,S,ϓ,ú,rfl,hJ,ZP,q⟩:=hrel;have Ï:=q.box;by_cases ϗ:k<m
  ·obtain⟨j,rfl⟩:∃j,k=j+1:=⟨k-1,fM⟩;have æ:=q.vals (j+1) ϗ;have þ:=q.vals j fM;have ÿ:=HV.out (j+1) ϗ;have é:=HV.out j fM;have acT:=u64_xor_nat (V (j+1)) (V j) ÿ é;have õ:=aj.zO (V (j+1)) (V j) ÿ é;have Q:pO V (j+1)=V (j+1) ^^^ V j:=rfl;have hwo:=uK V m HV.out (j+1) fM;have ϖ:=aj.nZ V (j+1) fM;obtain⟨x,hx⟩:=bF (V (j+1) ^^^ V j);have K:aj.aZ V (j+1+1)=aj.eG (aj.aZ V (j+1)) x:=by rw[ϖ,hx];rfl
   rw[<-hx] at acT õ Q;have Y:=λw0 hT0=>IU (aj.aZ V (j+1)) x w0 hwo õ hT0
   rw[<-K] at Y;obtain⟨L,hL⟩:=bF ((aj.aZ V (j+1)).2.1);obtain⟨Wd,hWd⟩:=bF (aj.bG (aj.aZ V (j+1)));have ň:=q.win;rw[<-hL,<-hWd] at Y ň;unfold jX dS at Y;have q0:=ak ň 0;have q1:=ak ň 1;have o:xB V (j+1)=#[.agg #[.int .i64 ((aj.fu (aj.aZ V (j+1)) x:Nat):Int),.int .i64 ((aj.aZ V (j+1+1)).2.1:Int),.int .i64 ((aj.bG (aj.aZ V (j+1+1)):Nat):Int)],.int .u64 (x:Int)]:=by
    unfold xB qG dS;rw[Q]
   obtain⟨y,hy0⟩:=bF (aj.fu (aj.aZ V (j+1)) x);obtain⟨L2,O⟩:=bF ((aj.aZ V (j+1+1)).2.1);obtain⟨W2,ω⟩:=bF (aj.bG (aj.aZ V (j+1+1)));rw[<-hy0,<-O,<-ω] at Y o;have HL2:=Ϣ O;have HW2:=Ϣ ω;generalize hV1:V (j+1)=V1 at *;generalize hV0:V j=V0 at *;have Ag:=Ϣ Y;have z:=Ϣ q;have HJ:=Ϣ hJ;have ZQ:=Ϣ ZP;have anB:=Ϣ o;have QU:=Ϣ ň;have hjI:(j:Int)+1<(m:Int):=fM;clear Y q hJ ZP Q ň ϖ K hwo ÿ é hx hL hWd hV1 hV0 õ hy0 O ω o;gi_wp2;refine wpIn_wide.2 ?_;go_quiet (fail);gi_wp2_with fail;refine⟨trivial,rfl,?_⟩;refine CallsIn.mono (callsIn_wide.2 (Ag.out _ (λi H=>z.out.tab i H))) ?_;rintro e w1 ⟨rfl,F⟩;have Õ:wr.heap.size<=w1.heap.size:=F.size;have anE:Kept [W.heap.size] wr w1:=⟨F.os,F.tape,F.output,F.size,λb U _=>F.block b U⟩;obtain⟨A,hA⟩:=bF (w1.alloc (.cells #[.int .i64 (y:Int),.int .i64 (L2:Int),.int .i64 (W2:Int)] 284));have hkA:Kept [W.heap.size] wr A:=by rw[hA];exact anE.alloc _
   have anF:Kept [] wr A:=by rw[hA];exact (Kept.of_below (S:=[]) (⟨F.os,F.tape,F.output,F.size,F.block⟩:Below wr.heap.size wr w1)).alloc _
   have I:W.heap.size∉S:=λh=>(ZQ.out _ h).2 rfl
   have hJA:=Z.out _ S wr A HJ.out hkA I;have hpA:A.heap[w1.heap.size]? = some (.cells #[.int .i64 (y:Int),.int .i64 (L2:Int),.int .i64 (W2:Int)] 284 (0,0)):=by rw[hA];exact heap_alloc_new _ _
   have ν:A.heap.size=w1.heap.size+1:=by rw[hA];simp
   have hpS:w1.heap.size∉S:=λh=>by have:=anz.out _ S wr HJ.out _ h;omega
   obtain⟨fn,tmps,assign,body,hy,hR⟩:=HJy.out (j+1) S A ϓ ϗ hJA;rw[anB.out] at hy;rw[hA] at hy;have ahF:=Ϣ (z.out.kept anF rQ rQ rQ rQ);have HR:=Ϣ hR;have Bp:=Ϣ hpA;have HHA:=Ϣ hA;gi_wp2;refine⟨rfl,?_⟩;rw[<-HHA.out];refine RoundIn.mono HR.out ?_;rintro e W3 ⟨rfl,S',hJ3,Ġ,hS3⟩;have hqA:W.heap.size<wr.heap.size:=lt_of_block QU.out;have hp3:=(Ġ.block _ fM hpS).trans Bp.out;have D:=ahF.out.kept Ġ (λh=>(ZQ.out _ h).1 rQ) (λh=>(ZQ.out _ h).1 rQ) (λh=>(ZQ.out _ h).1 rQ) I;have KZ:W3.heap[W.heap.size]? = some (.cells #[.int .i64 (L:Int),.int .i64 (Wd:Int)] 282 (0,0)):=by
    have h1:=ahF.out.win;have h2:A.heap[W.heap.size]? = some (.cells #[.int .i64 (L:Int),.int .i64 (Wd:Int)] 282 (0,0)):=by
     rw[h1,<-z.out.win];exact QU.out
    exact (Ġ.block _ fM I).trans h2
   have p1:=ak hp3 1;have p2:=ak hp3 2;have z0:=ak KZ 0;have z1:=ak KZ 1;have y0:=aA KZ 0;have y1:=aA KZ 1;have anG:W.heap.size∉S':=λh=>by rcases hS3 _ h with h|h;exact I h;omega
   obtain⟨B,hB⟩:=bF ((W3.setCell ⟨W.heap.size,0,none⟩ (.int .i64 (L2:Int))).setCell ⟨W.heap.size,1,none⟩ (.int .i64 (W2:Int)));have ź:Kept [W.heap.size] W3 B:=by rw[hB];exact ((Kept.refl _ _).setCell (.inl rQ) _).setCell (.inl rQ) _
   have hJB:=Z.out _ S' W3 B hJ3 ź anG;have anH:MI B G lb R m c V W.heap.size (j+1+1):=by
    refine⟨ź.cell D.box qz,λi H=>ź.cell (D.vals i H) qz,λi H=>ź.cell (D.tab i H) qz,?_⟩;rw[hB,heap_set (heap_set KZ 0 _) 1 _,HL2.out,HW2.out];rfl
   have hSB:∀b,b∈S'->b ∉ [G,lb,16]/\b≠W.heap.size:=by
    intro b U;rcases hS3 b U with h|h
    ·exact ZQ.out b h
    ·refine⟨?_,fM⟩;simp
     omega
   have HHB:=Ϣ hB;have IX:=Ϣ hJB;have anI:=Ϣ anH;have K3:=Ϣ hSB;gi_wp2;go_roundw;case rel=>rw[<-HHB.out];exact⟨j+1+1,S',fM,fM,rU,IX.out,K3.out,anI.out⟩
   case measure=>simp[intOf];omega
  ·have:k=m:=fM;subst this;have HJ:=Ϣ hJ;gi_wp2;go_end0;exact⟨⟨_,rfl⟩,S,HJ.out⟩
attribute [local go_sem] Oper.semAt_some
theorem ZR(V:Nat->Nat)(m:Nat)(j:∀i,i<m->V i<18446744073709551616)(k:Nat)(A:1<=k)(o:k<m):
  (aj.dB (aj.aZ V k) (pO V k)).length=aj.ny (aj.partsOf (aj.fu (aj.aZ V k) (pO V k)) (aj.aZ V (k+1)).2.1 (aj.bG (aj.aZ V (k+1))) (pO V k)):=by
 have z:=aj.zO (V k) (V (k-1)) (j k o) (j (k-1) fM);have q:=uK V m j k fM;rw[aj.nZ V k fM];show (aj.dB _ (V k ^^^ V (k-1))).length=_;rw[aj.IV q _ z];rfl
theorem wrap_small(n:Int)(j:0<=n)(o:n<=1000000):IntKind.i64.wrap n=n:=by
 rw[IntKind.wrap_i64];omega
theorem Xt{w W j:World}{a N n:Int}(z:W.heap[w.heap.size]? = some (.cells #[.int .i64 a] 3 (0,0)))(q:Below w.heap.size w W)(o:Below W.heap.size W j)(A:N=n):
  (j.setCell ⟨w.heap.size,0,none⟩ (.int .i64 n)).heap[w.heap.size]? = some (.cells #[.int .i64 N] 3 (0,0))/\Below w.heap.size w (j.setCell ⟨w.heap.size,0,none⟩ (.int .i64 n))/\Kept [w.heap.size] W (j.setCell ⟨w.heap.size,0,none⟩ (.int .i64 n)):=by
 subst A;refine⟨?_,(q.trans (o.mono q.size)).setCell (le_refl _) _,(Kept.of_below o).setCell (.inl rQ) _⟩;rw[heap_set ((o.block _ (lt_of_block z)).trans z) 0 _];rfl
theorem Xu(lb lo m c:Nat)(V:Nat->Nat)(w:World)(Ę:1<=m)(R:m<=1000)(hV:∀i,i<m->V i<18446744073709551616)
  (xS:∀i,i<m->w.cell? ⟨lb,lo+i,none⟩=some (.int .u64 (V i:Int))) (F:Tab w) :
  Calls prog 172 #[.slice (some ⟨lb,lo,none⟩) m c] w λe w'=>e = .returned (.int .i64 ((aj.cZ V m).length:Int))/\Below w.heap.size w w':=by
 have Ţ:((m:Int)==0)=false:=rV;have Ì:=lt_of_cell (xS 0 Ę);have akO:=Ϣ xS;have HV:=Ϣ hV;have HT:Hid (Tab w):=F;have hG:=F.lt;refine callsIn_wide.1 (callsIn_of_wp_marks (n:=0) func172 rfl trivial (wpIn_wide.2 ?_));simp only[ntmps172,size_toArray,length_cons,length_nil,Nat.reduceAdd,Nat.reduceSub,Array.replicate_succ,Array.replicate_zero,push_toArray,append_toArray,nil_append,cons_append];go_wp2_with fail;refine Calls.mono (IW _ _ _ _) ?_;rintro e w1 ⟨rfl,rfl⟩;go_wp2;obtain⟨z,J⟩:=bF ((w.alloc (.cells #[.int .i64 64] 3)).alloc (.cells #[.slice (some ⟨lb,lo,none⟩) m c] 156));have ă:z.heap.size=w.heap.size+2:=by rw[J];simp
 have Ï:Below w.heap.size w z:=by rw[J];exact ((Below.refl _ _).alloc (le_refl _) _).alloc rQ _
 have ń:z.heap[w.heap.size]? = some (.cells #[.int .i64 64] 3 (0,0)):=by
  rw[J,Below.heap_alloc _ _ _ rQ];exact heap_alloc_new _ _
 have ŀ:z.heap[w.heap.size+1]? = some (.cells #[.slice (some ⟨lb,lo,none⟩) m c] 156 (0,0)):=by
  rw[J];have:=heap_alloc_new (w.alloc (.cells #[.int .i64 64] 3)) (.cells #[.slice (some ⟨lb,lo,none⟩) m c] 156);simpa using this
 rw[<-J];refine FV (gf:=214) (lb:=#[.pointer (some ⟨w.heap.size+1,0,none⟩)]) rfl (enters_of func214 kM rfl) m (xB V) (λ_=>rfl) [w.heap.size+1,lb,16] (λb j=>by simp at j;omega)
  (BD (w.heap.size+1) lb lo m c V z Ę R HV.out (ak ŀ 0) (λi hi=>(Ï.cell (p:=⟨lb,lo+i,none⟩) Ì).trans (akO.out i hi)) (HT.out.below Ï hG))
  (λk S W=>S = [w.heap.size]/\W.heap[w.heap.size]? = some (.cells #[.int .i64 ((aj.cZ V k).length:Int)] 3 (0,0))/\Below w.heap.size w W)
  ?lt ?abide [w.heap.size] ?start ?apart (λk=>.cells #[.int .i64 ((aj.fu (aj.aZ V k) (pO V k):Nat):Int),.int .i64 ((aj.aZ V (k+1)).2.1:Int),.int .i64 ((aj.bG (aj.aZ V (k+1)):Nat):Int)] 284)
  (λk p=>{ tmps:=#[.slice (some ⟨lb,lo,none⟩) m c,undef,.int .i64 0,.pointer (some ⟨w.heap.size,0,none⟩),.pointer (some ⟨p,0,none⟩),.slice (some ⟨lb,lo,none⟩) m c,.int .i64 (m:Int),.bool false,.slice (some ⟨lb,lo,none⟩) m c,.func (.func 214) #[] #[.pointer (some ⟨w.heap.size+1,0,none⟩)],qG V k,.int .u64 (pO V k:Int),undef,undef,undef,undef,undef],defers:=[] })
  ?assign ?body ?done
 case lt=>
  rintro k S A ⟨rfl,j,_⟩ b R;simp at R;subst R;exact lt_of_block j
 case abide=>
  rintro k S T A B ⟨rfl,j,q⟩ hk F;have hn:w.heap.size∉T:=λh=>(F _ h).1 rQ
  exact⟨rfl,(hk.block _ (lt_of_block j) hn).trans j,q.trans (hk.below q.size (λx Y=>by have:=(F x Y).2;omega))⟩
 case start=>exact⟨rfl,by rw[aj.lH,aj.aG];exact ń,Ï⟩
 case apart=>intro b j;simp at j;subst j;simp;omega
 case assign=>
  intro l k W K Q;unfold qG dS at Q;unfold xB qG dS;gi_wp2;exact Q
 case body=>
  rintro l k S W p ϓ ú ⟨rfl,j,q⟩ U hpS;have ϐ:=ZR V m HV.out k ϓ ú;have Đ:=aj.jq V k fM;have H:=uK V m HV.out (k+1) fM;have o:=aj.uR H;have hy:aj.fu (aj.aZ V k) (pO V k)<=2:=by unfold aj.fu;(repeat' split)<;>omega
  have ã:=aj.um V k;have G:=aj.Fj (aj.aZ V k) (pO V k);rw[aj.Xj] at ϐ;have Ϡ:=λw0=>Xl (aj.fu (aj.aZ V k) (pO V k)) (aj.aZ V (k+1)).2.1 (aj.bG (aj.aZ V (k+1))) w0 hy o
  rw[<-ϐ] at Ϡ;have Á:((aj.cZ V (k+1)).length:Int)=((aj.cZ V k).length:Int)+((aj.dB (aj.aZ V k) (pO V k)).length:Int):=by
   rw[Đ,length_append];exact Int.natCast_add _ _
  unfold dS at Ϡ;unfold qG dS;generalize aj.fu (aj.aZ V k) (pO V k)=y at *;generalize (aj.aZ V (k+1)).2.1=L2 at *;generalize aj.bG (aj.aZ V (k+1))=W2 at *;generalize (aj.dB (aj.aZ V k) (pO V k)).length=ad at *;generalize (aj.cZ V k).length=I at *;have MJ:=Ϣ Á;have fQ:=Ϣ Ϡ;have htI:(I:Int)<=77000:=fM
  have haI:(ad:Int)<=77:=fM;have c0:=ak j 0;have f0:=aA j 0;have d0:=ak U 0;have d1:=ak U 1;have d2:=ak U 2;have O:=Ϣ q;have HBX:=Ϣ j;have Ñ:=lt_of_block j;have am6:prog.follows .mixedOrders=true:=kM;clear Á Ϡ ϐ Đ H o hy ã G q j ń ŀ U;gi_wp2_with fail;gi_region_with_o ((refine⟨trivial,rfl,?_⟩;refine CallsIn.mono (CallsIn.inRound l (callsIn_wide.2 (fQ.out _))) ?_;rintro e w2 ⟨rfl,Z⟩;have k0:w2.cell? ⟨w.heap.size,0,none⟩=some (.int .i64 (I:Int)):=(Z.cell (p:=⟨w.heap.size,0,none⟩) Ñ).trans c0;have k1:w2.frozen? ⟨w.heap.size,0,none⟩=false:=(Z.frozen (p:=⟨w.heap.size,0,none⟩) Ñ).trans f0;have HB2:=Ϣ Z;clear Z));all_goals
   have ó:=Xt (w:=w) (N:=((aj.cZ V (k+1)).length:Int)) HBX.out O.out (Ar HB2.out) (MJ.out.trans (wrap_small _ fM fM).symm);exact⟨[w.heap.size],⟨rfl,ó.1,ó.2.1⟩,ó.2.2,λb j=>.inl j⟩
 case done=>
  rintro D S W hD ⟨rfl,j,q⟩ hDS Q;have c0:=ak j 0;have O:=Ϣ q;go_wp2;refine⟨rQ,.inl ⟨_,_,rfl,run_takeDeferred Q,?_⟩⟩;exact⟨_,results_tmp rfl _ _ _,rfl,O.out.trans (((Kept.refl [D] W).put _ _ (.inl rQ)).below O.out.size (λx Y=>by simp at Y;subst Y;omega))⟩
attribute [local go_sem] Oper.semAt_some
theorem ZT(j:Option Addr)(c:Nat)(w:World)(p:Addr):
  Calls prog 124 #[.pointer (some p),.slice j 0 c] w λe w'=>e = .returned .nilIface/\Below w.heap.size w w':=by
 go_enter func124,ntmps124;go_wp2;exact bodyPost_ret (v:=.nilIface) (by simp[results,results124,go_sem]) rfl ⟨rfl,((Below.refl _ _).alloc (le_refl _) _).alloc rQ _⟩
structure uD(w w':World)(r:Nat)(v:Value)(bs:List Bool)(lb lo m:Nat)(V:Nat->Nat):Prop where
 row:dG w' r v bs
 vals:∀i,i<m->w'.cell? ⟨lb,lo+i,none⟩=some (.int .u64 (V i:Int))
 tab:Tab w'
 box:w'.heap[w.heap.size]? = some (.cells #[.pointer (some ⟨r,0,none⟩)] 219 (0,0))
 err:w'.heap[w.heap.size+1]? = some (.cells #[.nilIface] 25 (0,0))
 aI:Below w.heap.size w w'
theorem uD.below{w a b:World}{r:Nat}{v:Value}{q:List Bool}{lb o m:Nat}{V:Nat->Nat}(h:uD w a r v q lb o m V)(j:Below a.heap.size a b):uD w b r v q lb o m V:=
 ⟨h.row.below j,λi z=>(j.cell (p:=⟨lb,o+i,none⟩) (lt_of_cell (h.vals i z))).trans (h.vals i z),h.tab.below j h.tab.lt,(j.block _ (lt_of_block h.box)).trans h.box,(j.block _ (lt_of_block h.err)).trans h.err,h.aI.trans (j.mono h.aI.size)⟩
theorem uD.drew{w a:World}{r:Nat}{v:Value}{j:List Bool}{lb o m:Nat}{V:Nat->Nat}(h:uD w a r v j lb o m V):uD w a.drew r v j lb o m V:=
 h.below ⟨rfl,rfl,rfl,le_refl _,λ_ _=>rfl⟩
theorem vV{w w':World}{T:List Nat}{j:Nat}{e:TypeId}{s:Nat}{v:Value}{n:Nat}{xs:List Value}(h:w.ownsRow j e s v n xs)(I:Kept T w w')(G:∀b,b∈v.ownBlock.toList->b∉T):w'.ownsRow j e s v n xs:=by
 obtain⟨J,A⟩:=h;refine⟨J,?_⟩;rcases A with A|⟨g,q,z,F,H,D,o⟩
 ·exact .inl A
 ·exact .inr ⟨g,q,z,F,H,(I.block g (lt_of_block D) (G g (by rw[F];simp[Value.ownBlock]))).trans D,o⟩
theorem dG.jY{w w':World}{T:List Nat}{r:Nat}{v:Value}{j:List Bool}(h:dG w r v j)(q:Kept T w w')(o:∀b,b∈r::v.ownBlock.toList->b∉T):dG w' r v j:=
 ⟨(q.block r h.lt (o r rQ)).trans h.hb,vV h.own q (λb z=>o b (mem_cons_of_mem _ z))⟩
structure xU(w w':World)(r:Nat)(v vk:Value)(bs:List Bool):Prop where
 row:dG w' r vk bs
 box:w'.heap[w.heap.size]? = some (.cells #[.pointer (some ⟨r,0,none⟩)] 219 (0,0))
 err:w'.heap[w.heap.size+1]? = some (.cells #[.nilIface] 25 (0,0))
 kept:Kept (r::v.ownBlock.toList) w w'
 grew:vk.ownBlock=v.ownBlock\/∃g,vk.ownBlock=some g/\w.heap.size+2<=g
theorem xU.mem{w w':World}{r:Nat}{v o:Value}{q:List Bool}(h:xU w w' r v o q):∀x,x∈r::o.ownBlock.toList->x∈r::v.ownBlock.toList\/w.heap.size+2<=x:=by
 intro x A;rcases mem_cons.1 A with j|j
 ·exact .inl (by rw[j];simp)
 ·rcases h.grew with e|⟨g,e,z⟩
  ·rw[e] at j;exact .inl (mem_cons.2 (.inr j))
  ·rw[e] at j;simp at j;subst j;exact .inr z
theorem xU.step{w a b:World}{r:Nat}{v o D:Value}{H bs':List Bool}(h:xU w a r v o H)(K:∀x,x∈r::v.ownBlock.toList->x<w.heap.size)(J:dG b r D bs')(A:Kept (r::o.ownBlock.toList) a b)(j:jV a o D):xU w b r v D bs':=by
 have G:∀x,w.heap.size<=x->x<w.heap.size+2->x∉r::o.ownBlock.toList:=λx z Q I=>by
  rcases h.mem x I with F|F
  ·have:=K x F;omega
  ·omega
 refine⟨J,(A.block _ (lt_of_block h.box) (G _ (le_refl _) fM)).trans h.box,(A.block _ (lt_of_block h.err) (G _ fM fM)).trans h.err,h.kept.trans A (λx O=>?_),?_⟩
 ·rcases h.mem x O with z|z
  ·exact .inl z
  ·exact .inr fM
 ·have:=lt_of_block h.err;rcases j with e|⟨g,e,j⟩
  ·rcases h.grew with q|⟨g,q,j⟩
   ·exact .inl (e.trans q)
   ·exact .inr ⟨g,e.trans q,j⟩
  ·exact .inr ⟨g,e,fM⟩
theorem xU.jY{w a b:World}{T:List Nat}{r:Nat}{v A:Value}{D:List Bool}(h:xU w a r v A D)(q:Kept T a b)(o:∀x,x∈T->x∉r::A.ownBlock.toList/\w.heap.size+2<=x):xU w b r v A D:=
 ⟨h.row.jY q (λx z j=>(o x j).1 z),(q.block _ (lt_of_block h.box) (λj=>by have:=(o _ j).2;omega)).trans h.box,(q.block _ (lt_of_block h.err) (λj=>by have:=(o _ j).2;omega)).trans h.err,
  h.kept.trans q (λx z=>.inr (by have:=(o x z).2;omega)),h.grew⟩
theorem Ci(V:Nat->Nat)(a:Nat):∀b,a<=b->(aj.cZ V a).length<=(aj.cZ V b).length
 | 0,h=>by obtain rfl:a=0:=fM;exact le_refl _
 | b+1,h=>by
  rcases lt_or_ge b a with j|j
  ·have:a=b+1:=fM;subst this;exact le_refl _
  ·have q:=Ci V a b j;by_cases o:b=0
   ·subst o;have:a=0:=fM
    subst this;simp[aj.cZ]
   ·rw[aj.jq V b o,length_append];omega
theorem ZU(lb lo m c:Nat)(V:Nat->Nat)(w:World)(Y:1<=m)(I:m<=1000)(hV:∀i,i<m->V i<18446744073709551616)
  (xS:∀i,i<m->w.cell? ⟨lb,lo+i,none⟩=some (.int .u64 (V i:Int))) (hT:Tab w) (r:Nat) (v:Value) (o:List Bool) (hr:dG w r v o) (Ì:lb∉r::v.ownBlock.toList) (hGr:16<r)
  (Ϡ:o.length+(aj.cZ V m).length<=1048576) :
  Calls prog 124 #[.pointer (some ⟨r,0,none⟩),.slice (some ⟨lb,lo,none⟩) m c] w λe w'=>e = .returned .nilIface/\∃v',dG w' r v' (o++aj.cZ V m)/\Kept (r::v.ownBlock.toList) w w'/\jV w v v':=by
 have Ţ:((m:Int)==0)=false:=rV;obtain⟨W0,Ā⟩:=bF ((w.alloc (.cells #[.pointer (some ⟨r,0,none⟩)] 219)).alloc (.cells #[.nilIface] 25));have Ï:Below w.heap.size w W0:=by rw[Ā];exact ((Below.refl _ _).alloc (le_refl _) _).alloc rQ _
 have K4:uD w W0 r v o lb lo m V:=by
  refine⟨hr.below Ï,λi hi=>(Ï.cell (p:=⟨lb,lo+i,none⟩) (lt_of_cell (xS i hi))).trans (xS i hi),hT.below Ï hT.lt,?_,?_,Ï⟩
  ·rw[Ā,Below.heap_alloc _ _ _ rQ];exact heap_alloc_new _ _
  ·rw[Ā];have:=heap_alloc_new (w.alloc (.cells #[.pointer (some ⟨r,0,none⟩)] 219)) (.cells #[.nilIface] 25);simpa using this
 have QV:=Ϣ K4;have HW0:=Ϣ Ā;have HV:=Ϣ hV;have fQ:=Ϣ Ϡ;have CJ:=Ϣ Ì;have HR:=Ϣ hr;have Ű:∀F,uD w F r v o lb lo m V->Calls prog 172 #[.slice (some ⟨lb,lo,none⟩) m c] F λe w'=>e = .returned (.int .i64 ((aj.cZ V m).length:Int))/\w'.cell? ⟨w.heap.size,0,none⟩=some (.pointer (some ⟨r,0,none⟩))/\uD w w' r v o lb lo m V:=λF q=>by
  refine (Xu lb lo m c V F Y I hV q.vals q.tab).mono ?_;rintro e w' ⟨rfl,H⟩;have h1:=q.below H;exact⟨rfl,ak h1.box 0,h1⟩
 have ł:∀F,uD w F r v o lb lo m V->Calls prog 165 #[.pointer (some ⟨r,0,none⟩)] F λe w'=>e = .returned (.int .i64 (1048576-(o.length:Int)))/\w'.cell? ⟨w.heap.size,0,none⟩=some (.pointer (some ⟨r,0,none⟩))/\uD w w' r v o lb lo m V:=λF q=>by
  refine (DK F r v o q.row fM).mono ?_;rintro e w' ⟨rfl,rfl⟩;exact⟨rfl,ak q.box 0,q⟩
 have Ũ:∀F,uD w F r v o lb lo m V->Calls prog 122 #[.pointer (some ⟨r,0,none⟩),.int .u64 (V 0:Int),.int .i64 64] F λe w'=>e = .returned .nilIface/\(w'.cell? ⟨w.heap.size,0,none⟩=some (.pointer (some ⟨r,0,none⟩))/\w'.cell? ⟨lb,lo,none⟩=some (.int .u64 (V 0:Int)))/\∃v1,xU w w' r v v1 (o++aj.cZ V 1)/\(∀i,i<m->w'.cell? ⟨lb,lo+i,none⟩=some (.int .u64 (V i:Int)))/\Tab w':=λF q=>by
  have z:=Ci V 1 m Y;rw[aj.lH,aj.aG] at z;have é:=hV 0 Y;refine (kZ F r v o q.row (V 0) 64 fM fM fM).mono ?_;rintro e w' ⟨rfl,v1,ϯ,ϓ,Ð⟩;have hwS:∀x,w.heap.size<=x->x∉r::v.ownBlock.toList:=λx J I=>by have:=hr.jr x I;omega
  have ń:=(ϓ.block _ (lt_of_block q.box) (hwS _ (le_refl _))).trans q.box;have ZV:∀i,i<m->w'.cell? ⟨lb,lo+i,none⟩=some (.int .u64 (V i:Int)):=λi hi=>ϓ.cell (q.vals i hi) Ì
  refine⟨rfl,⟨ak ń 0,by simpa using ZV 0 Y⟩,v1,⟨by rw[aj.lH];exact ϯ,ń,(ϓ.block _ (lt_of_block q.err) (hwS _ fM)).trans q.err,(Kept.of_below q.aI).trans ϓ (λx J=>.inl J),by have:=lt_of_block q.err;rcases Ð with e|⟨g,e,hg⟩;exact .inl e;exact .inr ⟨g,e,fM⟩⟩,ZV,λj hj=>ϓ.cell (q.tab j hj) (λI=>by have:=hr.CS _ I;omega)⟩
 have Cc:=Ϣ Ũ;have akP:=Ϣ Ű;have WV:=Ϣ ł;have arN:decide ((1048576:Int)-(o.length:Int)<((aj.cZ V m).length:Int))=false:=qz;generalize hLN:(aj.cZ V m).length=LN at *;have lK:=Ϣ hLN;have K5:=Ϣ (lt_of_cell (xS 0 Y));clear Ũ Ű ł K4 Ā Ï hr hT xS hV Ϡ Ì hLN;refine callsIn_wide.1 (callsIn_of_wp_marks (n:=0) func124 rfl trivial (wpIn_wide.2 ?_));simp only[ntmps124,size_toArray,length_cons,length_nil,Nat.reduceAdd,Nat.reduceSub,Array.replicate_succ,Array.replicate_zero,push_toArray,append_toArray,nil_append,cons_append];go_wp2_with fail;have c0:=ak QV.out.box 0;rw[<-HW0.out];go_region_held3 (λw'=>w'.cell? ⟨w.heap.size,0,none⟩=some (.pointer (some ⟨r,0,none⟩))) (go_keep) ((first|(go_at_call 172;refine Calls.mono (akP.out _ (by first|exact QV.out|exact QV.out.drew)) ?_;rintro e w1 ⟨rfl,k1,į⟩;have qy:=Ϣ į;clear į QV)|(go_at_call 165;refine Calls.mono (WV.out _ (by first|exact qy.out|exact qy.out.drew)) ?_;rintro e w2 ⟨rfl,k2,Ĉ⟩;have q9:=Ϣ Ĉ;clear Ĉ qy)));have þ:w2.cell? ⟨lb,lo,none⟩=some (.int .u64 (V 0:Int)):=by simpa using q9.out.vals 0 Y
 have hmN:0<m:=Y;go_wp2_with fail;go_region_held3 (λw'=>w'.cell? ⟨w.heap.size,0,none⟩=some (.pointer (some ⟨r,0,none⟩))/\w'.cell? ⟨lb,lo,none⟩=some (.int .u64 (V 0:Int))) (go_keep) ((go_at_call 122;refine Calls.mono (Cc.out _ (by first|exact q9.out|exact q9.out.drew)) ?_;rintro e U ⟨rfl,⟨k3,k4⟩,v1,G,Ϯ,Ι⟩;have kT:=Ϣ G;have QW:=Ϣ Ϯ;have CY:Hid (Tab U):=Ι;clear G Ϯ Ι q9 Cc));go_wp2_with fail;refine Calls.mono (IW _ _ _ _) ?_;rintro e w4 ⟨rfl,rfl⟩;go_wp2;obtain⟨W4,R⟩:=bF (U.alloc (.cells #[.slice (some ⟨lb,lo,none⟩) m c] 156));have hs4:W4.heap.size=U.heap.size+1:=by rw[R];simp
 have ţ:Kept [] U W4:=by rw[R];exact (Kept.refl _ _).alloc _
 have ŀ:W4.heap[U.heap.size]? = some (.cells #[.slice (some ⟨lb,lo,none⟩) m c] 156 (0,0)):=by rw[R];exact heap_alloc_new _ _
 rw[<-R];have anJ:=kT.out.jY ţ (λx J=>by cases J);have hs3:=lt_of_block kT.out.err;have arO:=lt_of_cell (QW.out 0 Y);have hG3:=CY.out.lt;refine FV (gf:=214) (lb:=#[.pointer (some ⟨U.heap.size,0,none⟩)]) rfl (enters_of func214 kM rfl) m (xB V) (λ_=>rfl) [U.heap.size,lb,16] (λb H=>by simp at H;omega)
  (BD U.heap.size lb lo m c V W4 Y I HV.out (ak ŀ 0) (λi hi=>ţ.cell (QW.out i hi) rQ) (λj hj=>ţ.cell (CY.out j hj) rQ))
  (λk S W=>∃Q,S=r::Q.ownBlock.toList/\xU w W r v Q (o++aj.cZ V k))
  ?lt ?abide (r::v1.ownBlock.toList) ?start ?apart (λk=>.cells #[.int .i64 ((aj.fu (aj.aZ V k) (pO V k):Nat):Int),.int .i64 ((aj.aZ V (k+1)).2.1:Int),.int .i64 ((aj.bG (aj.aZ V (k+1)):Nat):Int)] 284)
  (λk p=>{ tmps:=#[.pointer (some ⟨r,0,none⟩),.slice (some ⟨lb,lo,none⟩) m c,.pointer (some ⟨w.heap.size,0,none⟩),undef,.pointer (some ⟨w.heap.size+1,0,none⟩),.nilIface,.pointer (some ⟨p,0,none⟩),.int .u64 (pO V k:Int),undef,
   .pointer (some ⟨r,0,none⟩),.bool false,undef,.slice (some ⟨lb,lo,none⟩) m c,.int .i64 (m:Int),.bool false,.slice (some ⟨lb,lo,none⟩) m c,.int .i64 (LN:Int),.pointer (some ⟨r,0,none⟩),.int .i64 (1048576-(o.length:Int)),.bool false,
   undef,.pointer (some ⟨r,0,none⟩),.slice (some ⟨lb,lo,none⟩) m c,.pointer (some ⟨lb,lo,none⟩),.int .u64 (V 0:Int),.nilIface,.nilIface,.bool false,undef,.slice (some ⟨lb,lo,none⟩) m c,.func (.func 214) #[] #[.pointer (some ⟨U.heap.size,0,none⟩)],qG V k,.int .u64 (pO V k:Int),undef,undef,undef,undef,undef,undef,undef],defers:=[] })
  ?assign ?body ?done
 case lt=>
  rintro k S A ⟨Q,rfl,G⟩ b H;exact G.row.jr b H
 case abide=>
  rintro k S T A B ⟨Q,rfl,G⟩ hk hT;exact⟨Q,rfl,G.jY hk (λx J=>⟨(hT x J).1,by have:=(hT x J).2;omega⟩)⟩
 case start=>exact⟨v1,rfl,anJ⟩
 case apart=>
  intro b H O;have ϗ:=kT.out.row.jr b H;have θ:=kT.out.row.CS b H;simp at O;rcases O with O|O|O
  ·omega
  ·subst O;rcases kT.out.mem b H with h|h
   ·exact CJ.out h
   ·have:=K5.out;omega
  ·omega
 case assign=>
  intro l k W K hK;unfold qG dS at hK;unfold xB qG dS;gi_wp2;exact hK
 case body=>
  rintro l k S W p ϓ ú ⟨Q,rfl,G⟩ O hpS;have J:=aj.zO (V k) (V (k-1)) (HV.out k ú) (HV.out (k-1) fM);have hu:=uK V m HV.out k fM;have hwo:=uK V m HV.out (k+1) fM;have hwide:=aj.uR hwo;have hy:aj.fu (aj.aZ V k) (pO V k)<=2:=by unfold aj.fu;(repeat' split)<;>omega
  have Đ:=aj.jq V k fM;have ŕ:=aj.IV hu _ J;rw[<-aj.nZ V k fM] at ŕ;have z:=Ci V (k+1) m fM;have Ϡ:=fQ.out;have Ũ:=ZH (aj.fu (aj.aZ V k) (pO V k)) (aj.aZ V (k+1)).2.1 (aj.bG (aj.aZ V (k+1))) (pO V k) W hy hwide J r Q (o++aj.cZ V k) G.row (by
   have e:aj.ny (aj.partsOf (aj.fu (aj.aZ V k) (pO V k)) (aj.aZ V (k+1)).2.1 (aj.bG (aj.aZ V (k+1))) (pO V k))=(aj.dB (aj.aZ V k) (V k ^^^ V (k-1))).length:=by rw[ŕ];rfl
   rw[e,length_append];rw[Đ,length_append] at z;have:=lK.out;omega)
  have Á:o++aj.cZ V k++aj.jJ (aj.partsOf (aj.fu (aj.aZ V k) (pO V k)) (aj.aZ V (k+1)).2.1 (aj.bG (aj.aZ V (k+1))) (pO V k))=o++aj.cZ V (k+1):=by
   rw[Đ,ŕ,append_assoc];rfl
  rw[Á] at Ũ;unfold dS at Ũ;unfold qG dS;generalize aj.fu (aj.aZ V k) (pO V k)=y at *;generalize (aj.aZ V (k+1)).2.1=L2 at *;generalize aj.bG (aj.aZ V (k+1))=W2 at *;have Cc:=Ϣ Ũ;have QX:=Ϣ G;have c0:=ak G.box 0;have d0:=ak O 0;have d1:=ak O 1;have d2:=ak O 2;generalize pO V k=x at *;gi_wp2_with fail;refine⟨trivial,rfl,?_⟩;refine CallsIn.mono (CallsIn.inRound l (callsIn_wide.2 Cc.out)) ?_;rintro e w5 ⟨rfl,v5,hr5,hk5,hg5⟩;have anK:=QX.out.step HR.out.jr hr5 hk5 hg5;have anL:=Ϣ anK;have HK5:=Ϣ hk5;have HG5:=Ϣ hg5;gi_wp2;exact⟨r::v5.ownBlock.toList,⟨v5,rfl,anL.out⟩,HK5.out,jV.mem HG5.out⟩
 case done=>
  rintro D S W hD ⟨Q,rfl,G⟩ hDS hK;have c0:=ak G.err 0;have f0:=aA G.err 0;have QX:=Ϣ G;go_wp2;have hK':(W.setCell ⟨w.heap.size+1,0,none⟩ .nilIface).heap[D]? = some (.deferred (some [])):=(Below.heap_setCell _ _ _ _ (by show D≠w.heap.size+1;omega)).trans hK;obtain⟨Z,hZ⟩:=bF ((W.setCell ⟨w.heap.size+1,0,none⟩ .nilIface).putObj D (.deferred none));have hkZ:Kept [w.heap.size+1,D] W Z:=by rw[hZ];exact ((Kept.refl _ _).setCell (.inl rQ) _).put _ _ (.inl rQ)
  have hcZ:Z.cell? ⟨w.heap.size+1,0,none⟩=some .nilIface:=by
   refine ak (cs:=#[.nilIface]) (t:=25) ?_ 0;rw[hZ,World.putObj_heap_other fM,heap_set QX.out.err 0 _];rfl
  have akQ:dG Z r Q (o++aj.cZ V m):=QX.out.row.jY hkZ (λb H I=>by
   simp at I;rcases I with I|I
   ·rcases QX.out.mem b H with h|h
    ·have:=HR.out.jr b h;omega
    ·omega
   ·subst I;exact hDS H)
  refine⟨rQ,.inl ⟨_,_,rfl,run_takeDeferred hK',?_⟩⟩;rw[<-hZ];refine⟨.nilIface,by simp[results,results124,go_sem,hcZ],rfl,Q,akQ,QX.out.kept.trans hkZ (λx J=>.inr (by simp at J;omega)),?_⟩;rcases QX.out.grew with e|⟨g,e,hg⟩
  ·exact .inl e
  ·exact .inr ⟨g,e,fM⟩
theorem acV(w:World)(I:Tab w)(q:Option Addr)(n c:Nat)(B:Nat->Nat)(J:DI w q n B)(K:n<=1000)(r:Nat)(v:Value)(j:List Bool)(H:dG w r v j)(O:∀x,q=some x->x.block∉r::v.ownBlock.toList)(z:16<r)
  (Q:j.length+(aj.cZ B n).length<=1048576) :
  Calls prog 124 #[.pointer (some ⟨r,0,none⟩),.slice q n c] w λe w'=>e = .returned .nilIface/\∃v',dG w' r v' (j++aj.cZ B n)/\Kept (r::v.ownBlock.toList) w w'/\jV w v v':=by
 by_cases D:n=0
 ·subst D;refine (ZT q c w ⟨r,0,none⟩).mono ?_;rintro e w' ⟨rfl,F⟩;exact⟨rfl,v,by rw[show aj.cZ B 0 = [] from rfl,append_nil];exact H.below F,Kept.of_below F,.inl rfl⟩
 ·rcases J with h|⟨b,o,rfl,G⟩
  ·exact absurd h D
  ·exact ZU b o n c B w fM K (λi A=>(G i A).2) (λi A=>(G i A).1) I r v j H (O _ rfl) z Q
theorem Oc(w:World)(hF:Forms w)(hT:Tab w)(la:Option Addr)(n c:Nat)(T:Nat->Int)(B:Nat->Nat)(hP:zT w la n T B)(hn:n<=120)(ϲ:∀i,i<n -> -1099511627776<=T i/\T i<=1099511627776):
  Calls prog 83 #[.slice la n c] w λe w'=>e = .returned (.tuple #[.string ⟨(aj.pack (dU T B n)).toArray⟩,.nilIface])/\Below w.heap.size w w':=by
 have HP:Hid (zT w la n T B):=hP;have fI:=Ϣ ϲ;have HF:Hid (Forms w):=hF;have HT:Hid (Tab w):=hT;have tQ:=hF.lt;have ET:=hT.lt;go_enter func83,ntmps83;go_wp2_with fail;go_loopw [4,5,7,14] (λt u _ i wr=>∃(k:Nat) (O F:Value),k<=n/\i = .int .i64 k/\O=t/\F=u/\wr.ownsRow w.heap.size 3 1 O k (jF (mR T k))/\wr.ownsRow w.heap.size 91 1 F k (kY (kI B k))/\(∀g,O.ownBlock=some g->F.ownBlock≠some g)/\Below w.heap.size w wr) (λ_ _ _ i _=>n-(intOf i).toNat);case atStart=>exact⟨0,_,_,zero_le _,rfl,rfl,rfl,⟨rfl,.inl ⟨rfl,rfl⟩⟩,⟨rfl,.inl ⟨rfl,rfl⟩⟩,λg H=>by simp[Value.ownBlock] at H,Below.refl _ _⟩
 case round=>
  obtain⟨k,O,F,hk,rfl,rfl,rfl,D,I,Ϙ,Z⟩:=hrel;by_cases ϣ:k<n
  ·obtain⟨lb,lo,rfl,ϥ⟩:=HP.out.at k ϣ;obtain⟨þ,æ,hT0,hT1,hB⟩:=ϥ k ϣ;have Ì:lb<w.heap.size:=World.block_lt_of_cell? w ⟨lb,_,none⟩ þ;have ϖ:=Mx T k;have hsu:=MB B k;have arP:=(Z.cell (p:=⟨lb,_,none⟩) Ì).trans þ;have anM:=(Z.cell (p:=⟨lb,_,none⟩) Ì).trans æ;generalize T k=t at *;generalize B k=y at *;have Ý:(0:Int)<=k:=fM;have ϓ:(k:Int)<n:=fM;obtain⟨i0,hi,ò,å,ô⟩:=info_parts Tryz.infoIntR;obtain⟨j0,A,hy0,hy1,hy2⟩:=info_parts Tryz.infoU64;have Ñ:=Z.size;obtain⟨W,ä⟩:=bF (wr.alloc (.cells #[.int .i64 t,.int .u64 (y:Int)] 93));have Õ:W.heap.size=wr.heap.size+1:=by rw[ä];simp
   have ϛ:W.heap[wr.heap.size]? = some (.cells #[.int .i64 t,.int .u64 (y:Int)] 93 (0,0)):=by rw[ä];exact heap_alloc_new _ _
   have anN:W.ownsRow w.heap.size 3 1 O k (jF (mR T k)):=by rw[ä];exact D.alloc _
   have Xw:W.ownsRow w.heap.size 91 1 F k (kY (kI B k)):=by rw[ä];exact I.alloc _
   have anO:Below w.heap.size w W:=by rw[ä];exact Z.alloc Ñ _
   have hvt:O.ownBlock≠some wr.heap.size:=λh=>by have:=(jr D _ h).1;omega
   have hvu:F.ownBlock≠some wr.heap.size:=λh=>by have:=(jr I _ h).1;omega
   have anP:((wr.alloc (.cells #[.int .i64 t,.int .u64 (y:Int)] 93)).alloc (.cells #[.int .i64 t] 3)).ownsRow w.heap.size 3 1 O k (jF (mR T k)):=(D.alloc _).alloc _;have HOT:=Ϣ anN;have ZW:Hid (W.ownsRow w.heap.size 91 1 F k (kY (kI B k))):=Xw;have Vp:=Ϣ Ϙ;have K:=Ϣ anO;have HST:=Ϣ ϖ;have HSU:=Ϣ hsu;have HW1:=Ϣ ä;have EX:=Ϣ ϛ;have HVT:=Ϣ (λh=>hvt h:O.ownBlock=some wr.heap.size->False);go_wp2_with (at_builtin;refine wpList_append_lies _ rfl _ _ 35 rfl w.heap.size 3 i0 (.int .i64 0) 1 8 underlying35 hi ò å ô rfl mH _ _ _ rfl anP ⟨wr.heap.size+1,0,none⟩ 1 1 [.int .i64 t] rfl rfl ?c1 ?c2 fM ?c3 ?c4 ?c5 (wr.heap.size+2) rQ ?_);try (case c1=>intro j u A;match j,A with|0,A=>simp at A;subst A;simp[Addr.add])
   case c2=>first|rfl|(intro u hu;simp at hu;subst hu;rfl)
   case c3=>unfold maxLen;omega
   case c4=>omega
   case c5=>first|omega|(simp;omega)
   intro Y wZ w1 Ä ϑ Ê hlt1;rw[<-HW1.out] at ϑ;have ώ:=FK K.out HOT.out ϑ;have Xw:=U5 (ZW.out.alloc _) ϑ (λg H h=>Vp.out g h H);have Ϧ:∀i,w1.cell? ⟨wr.heap.size,i,none⟩=(#[Value.int .i64 t,Value.int .u64 (y:Int)]:Array Value)[i]?:=by
    have G:w1.heap[wr.heap.size]? = some (.cells #[.int .i64 t,.int .u64 (y:Int)] 93 (0,0)):=by
     rw[ϑ.block wr.heap.size qz (λh=>HVT.out h.symm),Below.heap_alloc _ _ _ fM];exact EX.out
    exact ak G
   rw[FJ,<-HST.out] at Ä;have hne1:F.ownBlock≠some Y:=by
    intro h;rcases Ê with G|G
    ·exact Vp.out Y G h
    ·have:=(jr ZW.out Y h).1;omega
   have anM:=Ϧ 1;have anQ:(w1.alloc (.cells #[.int .u64 (y:Int)] 91)).ownsRow w.heap.size 91 1 F k (kY (kI B k)):=Xw.alloc _;have Õ:=ώ.size;have anR:Hid (w1.ownsRow w.heap.size 3 1 (.slice (some ⟨Y,0,none⟩) (k+1) wZ) (k+1) (jF (mR T (k+1)))):=Ä;have anS:=Ϣ Xw;have Q:=Ϣ ώ;have ahI:=Ϣ (λh=>hne1 h:F.ownBlock=some Y->False);have anT:=Ϣ hlt1;go_wp2_with (at_builtin;refine wpList_append_lies _ rfl _ _ 156 rfl w.heap.size 91 j0 (.int .u64 0) 1 8 underlying156 A hy0 hy1 hy2 rfl mH _ _ _ rfl anQ ⟨w1.heap.size,0,none⟩ 1 1 [.int .u64 (y:Int)] rfl rfl ?d1 ?d2 fM ?d3 ?d4 ?d5 (w1.heap.size+1) rQ ?_);try (case d1=>intro j u A;match j,A with|0,A=>simp at A;subst A;simp[Addr.add])
   case d2=>first|rfl|(intro u hu;simp at hu;subst hu;rfl)
   case d3=>unfold maxLen;omega
   case d4=>omega
   case d5=>first|omega|(simp;omega)
   intro g2 cap2 w2 Å o anU hlt2;have ϒ:=FK Q.out anS.out o;have anV:=U5 (anR.out.alloc _) o (λg H h=>by
    simp[Value.ownBlock] at H;subst H;exact ahI.out h)
   rw[EI,<-HSU.out] at Å;have hne2:∀g,(Value.slice (some ⟨Y,0,none⟩) (k+1) wZ).ownBlock=some g->(Value.slice (some ⟨g2,0,none⟩) (k+1) cap2).ownBlock≠some g:=by
    intro g H h;simp[Value.ownBlock] at H h;subst H;rcases anU with G|G
    ·rw[h] at G;exact ahI.out G
    ·have:=anT.out;omega
   have anW:=Ϣ anV;have anX:=Ϣ Å;have R:=Ϣ ϒ;have anY:=Ϣ hne2;go_wp2;go_roundw;case rel=>exact⟨k+1,_,_,fM,rU,rfl,rfl,anW.out,anX.out,anY.out,R.out⟩
   case measure=>simp[intOf]<;>omega
  ·have ĝ:k=n:=fM;subst ĝ;have anZ:=jr D;have an0:=jr I;obtain⟨at_,ct,rfl,hI⟩:=acr D;obtain⟨au,cu,rfl,hU⟩:=acs I (λi hi=>by
    obtain⟨_,_,_,ϥ⟩:=HP.out.at i hi;exact (ϥ i hi).2.2.2.2)
   have HI:Hid (Ints wr at_ k T):=hI;have HU:Hid (DI wr au k B):=hU;have pQ:=Ϣ anZ;have HLU:=Ϣ an0;have K:=Ϣ Z;have Ñ:=Z.size;have hku:IntKind.u64.wrap (k:Int)=k:=IntWalk.u64_in _ fM;have MJ:=Ϣ (afH wr);go_wp2_with fail;refine Calls.mono MJ.out ?_;rintro e w1 ⟨rfl,ϯ,ώ,Õ⟩;obtain⟨r,V⟩:=bF wr.heap.size;rw[<-V] at ϯ Õ Ñ ⊢;have Cc:=Ϣ (kZ w1 r (.slice none 0 0) [] ϯ k 8 fM fM rQ);have Q:=Ϣ ώ;have q:=Ϣ V;clear MJ ϯ ώ V;go_wp2_with fail;refine Calls.mono Cc.out ?_;rintro e w2 ⟨rfl,v2,í,È,ϭ⟩;rw[nil_append] at í;have MK:Below r w1 w2:=È.below fM (λx J=>by simp[Value.ownBlock] at J;omega);have Ż:=Q.out.trans (MK.mono (by have:=q.out;omega));have hsz2:r+1<=w2.heap.size:=by have:=MK.size;omega
   have hBw2:=K.out.trans (Ż.mono K.out.size);have ϗ:=wX T k;have hlm:=aj.um B k;have arQ:(aj.bitsOf k 8).length=8:=aj.aG _ _;have qL:=(show Hid _ from Zu w2 (HF.out.below hBw2 tQ) r fM v2 (aj.bitsOf k 8) í at_ k ct T (HI.out.below Ż) (λx J=>by
    have:=(pQ.out x.block (by rw[J];rfl)).1;have:=q.out;omega) fM fI.out fM)
   have HR2:=Ϣ í;have R:=Ϣ Ż;go_wp2_with fail;refine Calls.mono qL.out ?_;rintro e w3 ⟨rfl,v3,ι,Ġ,hg3⟩;have ML:=Ġ.below fM (λx J=>HR2.out.CS x J);have U:=R.out.trans (ML.mono (by have:=q.out;omega));have MN:r+1<=w3.heap.size:=by have:=ML.size;omega
   have hBw3:=K.out.trans (U.mono K.out.size);have HMP:=(show Hid _ from acV w3 (HT.out.below hBw3 ET) au k cu B (HU.out.below U) fM r v3 (aj.bitsOf k 8++bS T k) ι (λx J hm=>by
    have G:=(HLU.out x.block (by rw[J];rfl)).1;have h2:=ι.CS _ hm;have:=q.out;omega) fM (by rw[length_append];omega))
   have HR3:=Ϣ ι;have HB3:=Ϣ U;go_wp2_with fail;refine Calls.mono HMP.out ?_;rintro e w4 ⟨rfl,v4,hr4,ţ,hg4⟩;have an1:=ţ.below fM (λx J=>HR3.out.CS x J);have hB4:=HB3.out.trans (an1.mono (by have:=q.out;omega));have an2:=K.out.trans (hB4.mono K.out.size);have KU:Hid (Calls prog 125 #[.pointer (some ⟨r,0,none⟩)] w4 λe w'=>e = .returned (.string ⟨(aj.pack (dU T B k)).toArray⟩)/\w'=w4):=Zb w4 r v4 _ hr4;have bQ:=Ϣ an2;obtain⟨z,hz⟩:=bF (⟨(aj.pack (dU T B k)).toArray⟩:ByteArray);rw[<-hz] at KU;have HZ:=Ϣ hz;go_wp2_with fail;refine Calls.mono KU.out ?_;rintro e w5 ⟨rfl,IJ⟩;have acW:=IJ.symm;subst acW;go_wp2;go_ret2;exact⟨by rw[<-HZ.out];rfl,bQ.out⟩
theorem Xx(w:World)(p:Addr):
  Calls prog 252 #[.pointer (some p),.int .i64 0] w λe w'=>e = .returned (.tuple #[.slice none 0 0,.nilIface])/\w'=w:=by
 go_enter func252,ntmps252;go_wp2;go_ret2;exact⟨rfl,rfl⟩
structure MRd(w wr:World)(x:Nat)(D:List Bool)(vs:List Nat)(u g cap:Nat)(eN eT:Value):Prop where
 read:aj.bO D vs.length=(0,vs,u)
 own:wr.ownsRow w.heap.size 91 1 (.slice (some ⟨g,0,none⟩) vs.length cap) vs.length (kY vs)
 gq:g≠w.heap.size+1
 vals:∀y,y∈vs->y<18446744073709551616
 rd:gP wr x (D.drop u)
 win:wr.heap[w.heap.size+1]? = some (.cells #[.int .i64 ((aj.aZ (aj.vf vs) vs.length).2.1:Int),.int .i64 ((aj.bG (aj.aZ (aj.vf vs) vs.length):Nat):Int)] 282 (0,0))
 kept:Kept [x] w wr
 tab:Tab wr
 noE:wr.cell? ⟨4,0,none⟩=some eN
 txE:wr.cell? ⟨1,0,none⟩=some eT
def ahK(w w':World)(x:Nat)(D:List Bool)(n:Nat)(aN aT:Addr)(e:Ending):Prop:=
 Kept [x] w w'/\((∃(vs:List Nat) (u:Nat) (v:Value),aj.bO D n=(0,vs,u)/\e = .returned (.tuple #[v,.nilIface])/\vs.length=n/\w'.ownsRow w.heap.size 91 1 v n (kY vs)/\(∀y,y∈vs->y<18446744073709551616)/\gP w' x (D.drop u)) \/
  (aj.bO D n=(5,[],0)/\e = .returned (.tuple #[.slice none 0 0,.iface 397 (.pointer (some aN))])) \/
  (aj.bO D n=(1,[],0)/\e = .returned (.tuple #[.slice none 0 0,.iface 397 (.pointer (some aT))])))
theorem aeG(j:List Nat)(h:∀y,y∈j->y<18446744073709551616)(i:Nat)(o:i<j.length):aj.vf j i<18446744073709551616:=by
 have:aj.vf j i=j[i]:=by simp[aj.vf,List.getElem?_eq_getElem o]
 rw[this];exact h _ (getElem_mem _)
theorem ZX(w:World)(x:Nat)(D:List Bool)(h:gP w x D)(MH:Tab w)(n:Nat)(Ù:1<=n)(hn:n<=120)(Z aT:Addr)(hN:w.cell? ⟨4,0,none⟩=some (.iface 397 (.pointer (some Z))))(hT:w.cell? ⟨1,0,none⟩=some (.iface 397 (.pointer (some aT))))(ER:4<x)(IL:1<x)(EW:16<x):
  Calls prog 252 #[.pointer (some ⟨x,0,none⟩),.int .i64 (n:Int)] w λe w'=>ahK w w' x D n Z aT e:=by
 have õ:=h.lt;have hd0:decide ((n:Int)<0)=false:=rQ;have ū:decide (120<(n:Int))=false:=qz;have ś:((n:Int)==0)=false:=rV;by_cases h64:64<=D.length
 ·have Ð:=Ee w x D h 64 fM h64;have W:=aj.CB D h64;have é:aj.aW (D.take 64)<18446744073709551616:=by
   have:=aj.nR (D.take 64);rwa [length_take,Nat.min_eq_left h64] at this
  generalize aj.aW (D.take 64)=v0 at *;have iZ:=Ϣ Ð;have HN:=Ϣ hN;have HT:=Ϣ hT;have CY:=Ϣ MH;have Vq:=Ϣ W;go_enter func252,ntmps252;go_wp2_with fail;refine Calls.mono iZ.out ?_;rintro e w1 ⟨rfl,ϯ,ϓ,Õ⟩;have HR1:=Ϣ ϯ;have H:=Ϣ ϓ;go_wp2_with fail;obtain⟨wa,bT⟩:=bF ((w1.alloc (.cells #[.int .u64 (v0:Int)] 91)).alloc (.cells #[.int .i64 0,.int .i64 0] 282));have É:Kept [] w1 wa:=by rw[bT];exact ((Kept.refl _ _).alloc _).alloc _
  have ŵ:wa.heap.size=w.heap.size+2:=by rw[bT];simp;omega
  have Ţ:MRd w wa x D [v0] 64 w.heap.size 1 (.iface 397 (.pointer (some Z))) (.iface 397 (.pointer (some aT))):=by
   refine⟨Vq.out,⟨rfl,.inr ⟨w.heap.size,1,#[.int .u64 (v0:Int)],rfl,le_refl _,?_,le_refl _,by unfold maxLen;omega,rfl,rfl⟩⟩,fM,?_,HR1.out.jY É (λb I=>by cases I),?_,H.out.trans É (λz F=>by cases F),λj O=>É.cell (H.out.cell (CY.out j O) qz) rQ,É.cell (H.out.cell HN.out qz) rQ,É.cell (H.out.cell HT.out qz) rQ⟩
   ·rw[bT,Below.heap_alloc _ _ _ qz,<-Õ];exact heap_alloc_new _ _
   ·intro y Q;simp at Q;rw[Q];exact é
   ·rw[bT];have:=heap_alloc_new (w1.alloc (.cells #[.int .u64 (v0:Int)] 91)) (.cells #[.int .i64 0,.int .i64 0] 282);rw[World.size_alloc,Õ] at this;rw[this];show some _=some (Obj.cells #[.int .i64 ((aj.aZ (aj.vf [v0]) 1).2.1:Int),.int .i64 ((aj.bG (aj.aZ (aj.vf [v0]) 1):Nat):Int)] 282 (0,0));rw[aj.qC];rfl
  rw[<-bT];have IY:=Ϣ Ţ;go_loopw [6,8,10,11,12] (λval sl _ _ _ wr=>∃(o:List Nat) (u g V:Nat),1<=o.length/\o.length<=n/\val = .int .u64 ((aj.vf o (o.length-1):Nat):Int)/\sl = .slice (some ⟨g,0,none⟩) o.length V/\MRd w wr x D o u g V (.iface 397 (.pointer (some Z))) (.iface 397 (.pointer (some aT)))) (λ_ sl _ _ _ _=>n-(match sl with | .slice _ k _=>k|_=>0));case atStart=>exact⟨[v0],64,w.heap.size,1,le_refl _,Ù,rfl,rfl,IY.out⟩
  case round=>
   obtain⟨o,u,g,V,Ĳ,î,rfl,rfl,J⟩:=hrel;by_cases ϗ:o.length<n
   ·have hvf:=aeG o J.vals;have hwo:=uK (aj.vf o) o.length hvf o.length (le_refl _);have ĵ:=Pk (aj.aZ (aj.vf o) o.length) hwo wr x (D.drop u) J.rd J.tab Z aT J.noE J.txE ER IL EW;have ň:=J.win;have ϩ:∀c,c≠0->(∀p,aj.cO (aj.aZ (aj.vf o) o.length) p (D.drop u)=(c,0,0))->aj.bO D n=(c,[],0):=λc hc hs=>
     aj.zQ D (o.length+1) c hc (aj.PZ D o.length u o _ _ c fM J.read rfl rfl (hs _) hc) n fM
    have Ń:∀X b,(∀p,aj.cO (aj.aZ (aj.vf o) o.length) p (D.drop u)=(0,p ^^^ X,b))->aj.bO D (o.length+1)=(0,o ++ [aj.vf o (o.length-1) ^^^ X],u+b):=λX b hs=>
     aj.EC D o.length u o _ _ _ b fM J.read rfl rfl (hs _)
    have hnext:∀X,aj.aZ (aj.vf (o ++ [aj.vf o (o.length-1) ^^^ X])) (o.length+1)=aj.eG (aj.aZ (aj.vf o) o.length) X:=λX=>(aj.TH o X fM).2
    have Y:=Ϣ ϩ;have KV:=Ϣ Ń;have akR:=Ϣ hnext;obtain⟨k,hk⟩:=eB o.length;obtain⟨p,hp⟩:=eB (aj.vf o (o.length-1));have ē:p<18446744073709551616:=by rw[<-hp];exact hvf _ fM
    obtain⟨L,hL⟩:=eB ((aj.aZ (aj.vf o) o.length).2.1);obtain⟨Wd,hWd⟩:=eB (aj.bG (aj.aZ (aj.vf o) o.length));rw[hL,hWd] at ĵ ň;rw[hp];have q0:=ak ň 0;have q1:=ak ň 1;unfold jX at ĵ;have F3:=Ϣ ĵ;have A:=Ϣ J;have QU:=Ϣ ň;have HP:=Ϣ hp;have Nt:(k:Int)<n:=fM;rw[hk];have R:=Ϣ hk;go_wp2_with fail;refine Calls.mono F3.out ?_;rintro e w1 ⟨ϓ,À⟩;have ϋ:=(ϓ.block _ (lt_of_block QU.out) qz).trans QU.out;have arS:=lt_of_block ϋ;rcases À with⟨X,b,yE,ϖ,rfl,ϯ⟩|⟨ϖ,rfl⟩|⟨ϖ,rfl⟩
    ·have ċ:=KV.out X b ϖ;have hnx:=akR.out X;rw[HP.out] at ċ hnx;have acT:=u64_xor_nat p X ē yE;have hzl:=aj.zO p X ē yE;obtain⟨z,F⟩:=eB (p ^^^ X);rw[F] at ċ hnx acT hzl;rw[<-hnx];obtain⟨U2,hU2⟩:=eB (aj.aZ (aj.vf (o ++ [z])) (o.length+1));rw[hU2];obtain⟨y,Q⟩:=eB (aj.fu (aj.aZ (aj.vf o) o.length) X);obtain⟨L2,hL2⟩:=eB U2.2.1;obtain⟨W2,ω⟩:=eB (aj.bG U2);rw[Q,hL2,ω];unfold dS;have z0:=ak ϋ 0;have z1:=ak ϋ 1;have y0:=aA ϋ 0;have y1:=aA ϋ 1;have U:=Ϣ ϖ;have kS:=Ϣ ċ;have HR1:=Ϣ ϯ;have H:=Ϣ ϓ;have dX:=Ϣ ϋ;have HU2:=Ϣ hU2;have HL2:=Ϣ hL2;have HW2:=Ϣ ω;obtain⟨w2,Ë⟩:=bF ((w1.setCell ⟨w.heap.size+1,0,none⟩ (.int .i64 (L2:Int))).setCell ⟨w.heap.size+1,1,none⟩ (.int .i64 (W2:Int)));have È:Kept [w.heap.size+1] w1 w2:=by rw[Ë];exact ((Kept.refl _ _).setCell (.inl rQ) _).setCell (.inl rQ) _
     have μ:w2.heap.size=w1.heap.size:=by rw[Ë];simp
     have Ο:g≠x:=by
      have:=A.out.own.2;rcases this with⟨h,_⟩|⟨g',cap',cur,h,hg',_⟩
      ·cases h
      ·cases h;omega
     have Å:w2.ownsRow w.heap.size 91 1 (.slice (some ⟨g,0,none⟩) o.length V) o.length (kY o):=
      vV (vV A.out.own H.out (λb I=>by simp[Value.ownBlock] at I;subst I;simpa using Ο)) È (λb I=>by simp[Value.ownBlock] at I;subst I;simpa using A.out.gq)
     have akT:w2.heap[w.heap.size+1]? = some (.cells #[.int .i64 (L2:Int),.int .i64 (W2:Int)] 282 (0,0)):=by
      rw[Ë,heap_set (heap_set dX.out 0 _) 1 _];rfl
     obtain⟨w3,ė⟩:=bF ((w2.alloc (.cells #[.int .i64 (y:Int),.int .i64 (L2:Int),.int .i64 (W2:Int)] 284)).alloc (.cells #[.int .u64 (z:Int)] 91));have Ġ:Kept [] w2 w3:=by rw[ė];exact ((Kept.refl _ _).alloc _).alloc _
     have hs3:w3.heap.size=w1.heap.size+2:=by rw[ė];simp;omega
     have ð:=vV Å Ġ (λb I=>rQ);have hm3:∀G:World,Kept [] w3 G\/Kept [g] w3 G->Kept [x] w G/\gP G x ((D.drop u).drop b)/\G.heap[w.heap.size+1]? = some (.cells #[.int .i64 (L2:Int),.int .i64 (W2:Int)] 282 (0,0))/\Tab G/\G.cell? ⟨4,0,none⟩=some (.iface 397 (.pointer (some Z)))/\G.cell? ⟨1,0,none⟩=some (.iface 397 (.pointer (some aT))):=by
      intro G h4;have ř:w.heap.size<=g:=by
       have:=A.out.own.2;rcases this with⟨h,_⟩|⟨g',cap',cur,h,hg',_⟩
       ·cases h
       ·cases h;exact hg'
      have h4':Kept [g] w3 G:=by
       rcases h4 with h4|h4
       ·exact h4.none
       ·exact h4
      have K:Kept [w.heap.size+1,g] w1 G:=by
       have a1:Kept [w.heap.size+1,g] w1 w2:=È.trans (T:=[]) (Kept.refl _ _) (λz F=>by cases F) |> λh=>⟨h.os,h.tape,h.output,h.size,λb I J=>h.block b I (λhh=>J (by simp at hh;subst hh;simp))⟩
       exact (a1.trans Ġ (λz F=>by cases F)).trans h4' (λz F=>.inl (by simp at F;subst F;simp))
      have QY:=HR1.out.jY K (λb I=>by simp at I;omega);refine⟨(A.out.kept.trans H.out (λz F=>.inl F)).trans K (λz F=>.inr (by simp at F;omega)),QY,?_,λj O=>K.cell (H.out.cell (A.out.tab j O) qz) qz,K.cell (H.out.cell A.out.noE qz) qz,K.cell (H.out.cell A.out.txE (by intro Â;simp only[mem_cons,not_mem_nil,or_false] at Â;omega)) (by intro Â;simp only[mem_cons,not_mem_nil,or_false] at Â;omega)⟩;rw[h4'.block _ fM (by simpa using λh=>A.out.gq h.symm),Ġ.block _ fM rQ];exact akT
     obtain⟨i0,hi,ò,å,ô⟩:=info_parts Tryz.infoU64;rw[ė,Ë,R.out] at ð;have IZ:=Ϣ hm3;have HW3:Hid (w3=((((w1.setCell ⟨w.heap.size+1,0,none⟩ (.int .i64 (L2:Int))).setCell ⟨w.heap.size+1,1,none⟩ (.int .i64 (W2:Int))).alloc (.cells #[.int .i64 (y:Int),.int .i64 (L2:Int),.int .i64 (W2:Int)] 284)).alloc (.cells #[.int .u64 (z:Int)] 91))):=by rw[<-Ë];exact ė
     have Á:w3.cell? ⟨w1.heap.size+1,0,none⟩=some (.int .u64 (z:Int)):=by
      have h5:=heap_alloc_new (w2.alloc (.cells #[.int .i64 (y:Int),.int .i64 (L2:Int),.int .i64 (W2:Int)] 284)) (.cells #[.int .u64 (z:Int)] 91);rw[World.size_alloc,μ,<-ė] at h5;exact ak h5 0
     rw[ė,Ë] at Á;have gY:=Ϣ Á;have arn:k<=120:=by have:=R.out;omega
     go_wp2_with (at_builtin;refine wpList_append_lies _ rfl _ _ 156 rfl w.heap.size 91 i0 (.int .u64 0) 1 8 underlying156 hi ò å ô rfl mH _ _ _ rfl ð ⟨w1.heap.size+1,0,none⟩ 1 1 [.int .u64 (z:Int)] rfl rfl ?c1 ?c2 fM ?c3 ?c4 ?c5 (w1.heap.size+2) rQ ?_);case c1=>
      intro j u O;match j,O with
      | 0,O=>
       simp at O;subst O;rw[addr_add];exact gY.out
     try (case c2=>first|rfl|(intro u hu;simp at hu;subst hu;rfl))
     case c3=>unfold maxLen;omega
     case c4=>omega
     case c5=>first|omega|(simp;omega)
     intro g1 wZ G uE ϑ Ê arT;have ţ:Kept [g] w3 G:=by rw[HW3.out];exact Kept.grown ϑ (λj O=>by simp[Value.ownBlock] at O;subst O;simp)
     obtain⟨f1,f2,f3,f4,f5,f6⟩:=IZ.out G (.inr ţ);have ϐ:(o ++ [z]).length=k+1:=by rw[length_append,R.out];rfl
     rw[EI] at uE;have hm4:MRd w G x D (o ++ [z]) (u+b) g1 wZ (.iface 397 (.pointer (some Z))) (.iface 397 (.pointer (some aT))):=by
      refine⟨?_,?_,?_,?_,?_,?_,f1,f4,f5,f6⟩
      ·rw[ϐ,<-R.out];exact kS.out
      ·rw[ϐ];exact uE
      ·rcases Ê with h|h
       ·simp[Value.ownBlock] at h;subst h;exact A.out.gq
       ·omega
      ·intro y Q;rcases mem_append.1 Q with Q|Q
       ·exact A.out.vals y Q
       ·simp at Q;rw[Q];exact hzl
      ·rw[drop_drop] at f2;exact f2
      ·rw[ϐ,<-R.out,HU2.out,HL2.out,HW2.out];exact f3
     have hvz:aj.vf (o ++ [z]) (k+1-1)=z:=by
      rw[show k+1-1=o.length by rw[R.out];omega];exact aj.UQ o z
     have HM4:=Ϣ hm4;have lK:=Ϣ ϐ;have HVZ:=Ϣ hvz;go_wp2_with fail;go_roundw;case rel=>exact⟨o ++ [z],u+b,g1,wZ,by rw[lK.out];omega,by rw[lK.out];omega,by rw[lK.out,HVZ.out],by rw[lK.out],HM4.out⟩
     case measure=>simp;omega
    ·have U:=Ϣ (Y.out 5 mH ϖ);have uS:=Ϣ (A.out.kept.trans ϓ (λz F=>.inl F));unfold dS;go_wp2;go_ret2;exact⟨uS.out.alloc _,.inr (.inl ⟨U.out,rfl⟩)⟩
    ·have U:=Ϣ (Y.out 1 mH ϖ);have uS:=Ϣ (A.out.kept.trans ϓ (λz F=>.inl F));unfold dS;go_wp2;go_ret2;exact⟨uS.out.alloc _,.inr (.inr ⟨U.out,rfl⟩)⟩
   ·have hk:o.length=n:=fM;have A:=Ϣ J;rw[hk];have R:=Ϣ hk;go_wp2;go_ret2;refine⟨A.out.kept,.inl ⟨o,u,_,by rw[<-R.out];exact A.out.read,rfl,R.out,by have:=A.out.own;rw[R.out] at this;exact this,A.out.vals,A.out.rd⟩⟩
 ·have Ð:=zI w x D h 64 Z hN fM fM;have W:=aj.zQ D 1 5 mH (aj.Fp D fM) n Ù;have iZ:=Ϣ Ð;have Vq:=Ϣ W;clear Ð hN hT MH W h;go_enter func252,ntmps252;go_wp2_with fail;refine Calls.mono iZ.out ?_;rintro e w1 ⟨rfl,q,ϕ⟩;have H:Hid (Kept [x] w w1):=by rw[ϕ];exact (Kept.refl _ _).draws q
  clear ϕ iZ;go_wp2;go_ret2;exact⟨H.out,.inr (.inl ⟨Vq.out,rfl⟩)⟩
