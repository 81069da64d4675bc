import Derived.Shelf.RegionOpen
import Derived.Test.YtnonoiafongllaaGreatDoorV
import Derived.OwnWalkIn
import Derived.LoopNIn
import Derived.LoopIn
import Derived.RangeFuncNested
import Derived.RangeFuncBound
set_option maxRecDepth 1000000
set_option maxHeartbeats 4000000
open Nat (le_refl lt_or_ge zero_le)
open List
open Go.Proofs.Tryz
namespace Go.Proofs.YtnonoiafongllaaGreatDoor
open Go.RowKit
theorem Ϛ{p:Prop}(h:p):Go.RowKit.Hid p:=h
variable {P:Program}
def roundEnd(R:World->Prop):Exit->Act->World->Prop
 | .normal,_,W=>R W
 | _,_,_=>False
def Rounds(P:Program)(gf:Nat)(lb:Array Value)(encs:Nat->Array Value)(m:Nat)(Pr:List Nat)(w:World):Prop:=
 ∀(l:Nat) (J:Nat->List Nat->World->Prop) (S0:List Nat) (W:World),Below w.heap.size w W ->
  (∀k S A,J k S A->∀b,b∈S->b<A.heap.size) ->
  (∀k S A B,J k S A->Kept [W.heap.size] A B->W.heap.size∉S->J k S B) ->
  (∀k S A,1<=k->k<m->J k S A->YieldAt Fence.wide 0 P l (encs k) A λe A'=>e = .returned (.bool true)/\∃S',J (k+1) S' A'/\Kept S A A'/\∀b,b∈S'->b∈S\/A.heap.size<=b) ->
  J 1 S0 W->(∀b,b∈S0->b∉Pr) ->
  CallsIn Fence.wide 0 P gf (#[.func (.yield l) #[] #[]]++lb) W λe W'=>(∃v,e = .returned v)/\∃S',J m S' W'
theorem Kept.put{S:List Nat}{A W:World}(h:Kept S A W)(l:Nat)(o:Obj)(hl:l∈S\/A.heap.size<=l):Kept S A (W.putObj l o):=
 h.trans (T:=[l]) ⟨rfl,rfl,rfl,fE,λk _ H=>World.putObj_heap_other (by simpa using H)⟩ (λx e=>by simp at e;subst e;exact hl)
theorem CG{g:Operand}{ps:Array Tmp}{assign body:Code}{Q:Exit->Act->World->Prop}{a:Act}{w:World}{gf:Nat}{lb:Array Value}
  (hg:a.eval g = .func (.func gf) #[] lb) (eg:∀args w,(callFunc gf args).run P w = .ok (.enter gf args) w)
  (m:Nat) (M:Nat->Array Value) (hps:∀k,(M k).size=ps.size) (Pr:List Nat) (hPr:∀b,b∈Pr->b<w.heap.size) (hseq:Rounds P gf lb M m Pr w)
  (I:Nat->List Nat->World->Prop) (ύ:∀k S A,I k S A->∀b,b∈S->b<A.heap.size)
  (hI:∀k S T A B,I k S A->Kept T A B->(∀b,b∈T->b∉S/\w.heap.size<=b)->I k S B)
  (S0:List Nat) (h0:I 1 S0 w) (hS0:∀b,b∈S0->b∉Pr) (Fm:Nat->Obj) (a₁:Nat->Nat->Act)
  (Ζ:∀(l k:Nat) (W:World) (K:Act->World->Prop),K (a₁ k W.heap.size) (W.alloc (Fm k)) ->
   assign.wpIn (Fence.wide.inRound l) 0 P (Exit.then K (λ_ _ _=>False)) { tmps:=(ps.zip (M k)).foldl (λt (p,v)=>t.setIfInBounds p v) a.tmps,defers:=[] } W)
  (hbody:∀(l k:Nat) (S:List Nat) (W:World) (p:Nat),1<=k->k<m->I k S W->W.heap[p]? = some (Fm k)->p∉S ->
   body.wpIn (Fence.wide.inRound l) 0 P (roundEnd λW'=>∃S',I (k+1) S' W'/\Kept S W W'/\∀b,b∈S'->b∈S\/W.heap.size<=b) (a₁ k p) W)
  (hdone:∀(D:Nat) (S:List Nat) (W:World),w.heap.size<=D->I m S W->D∉S->W.heap[D]? = some (.deferred (some []))->Q .normal { a with defers:={ target:=.collected D,args:=#[] }::a.defers } W) :
  (Code.rangeFunc g ps assign body).wp P Q a w:=by
 refine (wpIn_wide (n:=0)).1 (wpIn_rangeFunc ?_);intro fn ē;obtain⟨J,ŋ⟩:∃J:LoopState->Loop,J=λst=>{ state:=st,pending:=none,fn,tmps:=a.tmps,params:=ps,assign,body,defers:=w.heap.size }:=⟨_,rfl⟩
 obtain⟨U,Ĳ⟩:=ay ((w.alloc (.deferred (some []))).alloc (.loop (J .ready)));have Ä:U.heap.size=w.heap.size+2:=by rw[Ĳ];simp
 have hL1:U.heap[w.heap.size+1]? = some (.loop (J .ready)):=by
  rw[Ĳ];have:=World.alloc_heap_new (w.alloc (.deferred (some []))) (.loop (J .ready));rwa [World.size_alloc] at this
 have hD1:U.heap[w.heap.size]? = some (.deferred (some [])):=by
  rw[Ĳ];exact (Below.heap_alloc _ _ _ fE).trans (World.alloc_heap_new w _)
 have ϓ:Kept [] w U:=by rw[Ĳ];exact ((Kept.refl _ _).alloc _).alloc _
 have ώ:Below w.heap.size w U:=by rw[Ĳ];exact ((Below.refl _ w).alloc (le_refl _) _).alloc fE _
 refine⟨w.heap.size+1,[{ target:=.collected w.heap.size,args:=#[] }],U,{ target:=.fn (.func gf) lb,args:=#[.func (.yield (w.heap.size+1)) #[] #[]] },U,gf,
  #[.func (.yield (w.heap.size+1)) #[] #[]]++lb,U,?_,?_,?_,?_,λh=>by simp[Fence.wide] at h,?_⟩
 ·rw[Ĳ,ŋ];exact run_enterLoop_outer _ _ _ _ _
 ·simp only[resolve,hg];simp[go_sem]
 ·intro f' _;trivial
 ·simp[invoke,go_sem,eg]
 ·refine CallsIn.mono (hseq (w.heap.size+1) (λk S' W=>∃S,S'=(w.heap.size+1)::S/\I k S W/\W.heap[w.heap.size+1]? = some (.loop (J .ready))/\W.heap[w.heap.size]? = some (.deferred (some []))/\w.heap.size+1∉S/\w.heap.size∉S)
   ((w.heap.size+1)::S0) U ώ ?_ ?_ ?_ ?_ ?_) ?_
  ·rintro k S' A ⟨S,rfl,hi,hl,hd,ν,ű⟩ b H;rcases mem_cons.1 H with rfl|H
   ·exact (Array.getElem?_eq_some_iff.1 hl).1
   ·exact ύ k S A hi b H
  ·rintro k S' A B ⟨S,rfl,hi,hl,hd,ν,ű⟩ hk hq;rw[Ä] at hk hq;have Z:=(Array.getElem?_eq_some_iff.1 hl).1;refine⟨S,rfl,hI k S _ A B hi hk (λb H=>?_),(hk.block _ Z fE).trans hl,(hk.block _ aZ fE).trans hd,ν,ű⟩;simp at H;subst H;exact⟨λh=>hq (mem_cons_of_mem _ h),aZ⟩
  ·rintro k S' A RV þ ⟨S,rfl,hi,hl,hd,ν,ű⟩;have Z:=(Array.getElem?_eq_some_iff.1 hl).1;have hy:=run_yield (P:=P) (args:=M k) hl (by rw[ŋ];exact hps k);rw[ŋ] at hy;refine⟨fn,_,assign,body,hy,roundIn_of_wpIn ē (Ζ _ k A _ ?_)⟩;have hl2:(A.alloc (Fm k)).heap[w.heap.size+1]? = some (.loop (J .ready)):=(Below.heap_alloc _ _ _ Z).trans hl;refine⟨_,run_beginRound hl2 (by rw[ŋ]),?_⟩;obtain⟨Ab,U5⟩:=ay ((A.alloc (Fm k)).putObj (w.heap.size+1) (.loop { J .ready with state:=.busy }));rw[<-U5];have ţ:Kept [w.heap.size+1] A Ab:=by rw[U5];exact ((Kept.refl _ _).alloc _).put _ _ (.inl fE)
   have hsb:Ab.heap.size=A.heap.size+1:=by rw[U5];simp
   have Û:Ab.heap[w.heap.size+1]? = some (.loop { J .ready with state:=.busy }):=by rw[U5];exact World.putObj_heap_same dH
   have hib:=hI k S _ A Ab hi ţ (λb H=>by simp at H;subst H;exact⟨ν,aZ⟩);have ľ:Ab.heap[A.heap.size]? = some (Fm k):=by rw[U5,World.putObj_heap_other aZ];exact World.alloc_heap_new _ _
   refine wpIn_mono (hbody _ k S Ab A.heap.size RV þ hib ľ (λh=>by have:=ύ k S A hi _ h;omega)) ?_;rintro e a3 W3 hp;cases e with
   | normal=>
    obtain⟨S3,hi3,ö,hn3⟩:=hp;have hl3:=(ö.block _ aZ ν).trans Û;have ş:=ö.size;have acQ:w.heap.size+1∉S3:=λh=>by rcases hn3 _ h with h|h;exact ν h;omega
    have ahR:w.heap.size∉S3:=λh=>by rcases hn3 _ h with h|h;exact ű h;omega
    refine⟨_,_,run_endRound (P:=P) none hl3,rfl,(w.heap.size+1)::S3,⟨S3,rfl,?_,?_,?_,acQ,ahR⟩,?_,?_⟩
    ·exact hI (k+1) S3 [w.heap.size+1] W3 _ hi3 ((Kept.refl _ _).put _ _ (.inl fE)) (λb H=>by simp at H;subst H;exact⟨acQ,aZ⟩)
    ·rw[World.putObj_heap_same aZ,ŋ];rfl
    ·rw[World.putObj_heap_other aZ,ö.block _ aZ ű,ţ.block _ aZ fE];exact hd
    ·have h1:Kept ((w.heap.size+1)::S) A Ab:=⟨ţ.os,ţ.tape,ţ.output,ţ.size,λb H hm=>ţ.block b H (λh=>hm (by simp at h;subst h;simp))⟩;exact (h1.trans ö (λx hx=>.inl (mem_cons_of_mem _ hx))).put _ _ (.inl fE)
    ·intro b H;rcases mem_cons.1 H with rfl|H
     ·exact .inl fE
     ·rcases hn3 b H with h|h
      ·exact .inl (mem_cons_of_mem _ h)
      ·exact .inr aZ
   | ret=>exact hp.elim
   | exit id=>exact hp.elim
   | goto t=>exact hp.elim
   | panic ch=>exact hp.elim
   | outgrown=>exact hp.elim
  ·refine⟨S0,rfl,hI 1 S0 [] w U h0 ϓ (λb H=>by cases H),hL1,hD1,?_,?_⟩
   ·intro h;have:=ύ 1 S0 w h0 _ h;omega
   ·intro h;have:=ύ 1 S0 w h0 _ h;omega
  ·intro b H hp;rcases mem_cons.1 H with rfl|H
   ·have:=hPr _ hp;omega
   ·exact hS0 b H hp
  ·rintro e W2 ⟨⟨v,rfl⟩,S',S,rfl,hi,hl,hd,ν,ű⟩;have Z:=(Array.getElem?_eq_some_iff.1 hl).1;refine⟨none,_,by have:=run_endLoop (P:=P) hl (by rw[ŋ];simp);rw[ŋ] at this;exact this,hdone _ S _ (le_refl _) ?_ ű ((World.putObj_heap_other aZ).trans hd)⟩;exact hI m S [w.heap.size+1] W2 _ hi ((Kept.refl _ _).put _ _ (.inl fE)) (λb H=>by simp at H;subst H;exact⟨ν,aZ⟩)
open Go.Shelf
attribute [local go_sem] Oper.semAt_some
theorem EH(H:Option Addr)(m c:Nat)(w:World):
  Calls prog 110 #[.slice H m c] w λe w'=>e = .returned (.func (.func 130) #[] #[.pointer (some ⟨w.heap.size,0,none⟩)])/\w'=w.alloc (.cells #[.slice H m c] 63):=by
 go_enter func110,ntmps110;go_wp2;go_ret;exact⟨rfl,rfl⟩
def l6(V:Nat->Nat)(k:Nat):Nat:=V k ^^^ V (k-1)
def mY(V:Nat->Nat)(k:Nat):Value:=dG (ah.dZ (ah.aQ V k) (l6 V k)) (ah.aQ V (k+1)).2.1 (ah.aY (ah.aQ V (k+1)))
def sJ(V:Nat->Nat)(k:Nat):Array Value:=#[mY V k,.int .u64 (l6 V k:Int)]
structure IQ(wr:World)(Bn lb lo m c:Nat)(V:Nat->Nat)(q k:Nat):Prop where
 box:wr.cell? ⟨Bn,0,none⟩=some (.slice (some ⟨lb,lo,none⟩) m c)
 vals:∀i,i<m->wr.cell? ⟨lb,lo+i,none⟩=some (.int .u64 (V i:Int))
 tab:Tab wr
 win:wr.heap[q]? = some (.cells #[.int .i64 ((ah.aQ V k).2.1:Int),.int .i64 ((ah.aY (ah.aQ V k):Nat):Int)] 153 (0,0))
theorem IQ.kept{wr e:World}{H lb I m c:Nat}{V:Nat->Nat}{q k:Nat}(h:IQ wr H lb I m c V q k){S:List Nat}(hk:Kept S wr e)(J:H∉S)(M:lb∉S)(U:13∉S)(Z:q∉S):IQ e H lb I m c V q k:=
 ⟨hk.cell h.box J,λi hi=>hk.cell (h.vals i hi) M,λj hj=>hk.cell (h.tab j hj) U,(hk.block q (lt_of_block h.win) Z).trans h.win⟩
theorem qh(V:Nat->Nat)(n:Nat)(e:∀i,i<n->V i<18446744073709551616):∀k,k<=n->ah.pF (ah.aQ V k)
 | 0,_=>by simp[ah.aQ,ah.pF]
 | k+1,h=>by
  by_cases hk:k=0
  ·subst hk;rw[ah.jX];simp[ah.pF]
  ·rw[ah.jS V k hk];exact ah.RX (qh V n e k aZ) _ (ah.qE _ _ (e k aZ) (e (k-1) aZ))
theorem yh(U lb lo m c:Nat)(V:Nat->Nat)(w:World)(Ļ:1<=m)(hm:m<=1000)(hV:∀i,i<m->V i<18446744073709551616)
  (CQ:w.cell? ⟨U,0,none⟩=some (.slice (some ⟨lb,lo,none⟩) m c)) (sV:∀i,i<m->w.cell? ⟨lb,lo+i,none⟩=some (.int .u64 (V i:Int))) (hT:Tab w) :
  Rounds prog 130 #[.pointer (some ⟨U,0,none⟩)] (sJ V) m [U,lb,13] w:=by
 intro l J S0 W Η ac5 hJk hJy hJ0 hS0;have hBn:=lt_of_cell CQ;have Û:=lt_of_cell (sV 0 Ļ);have hsW:=Η.size;have ae7:=(Η.cell (p:=⟨U,0,none⟩) hBn).trans CQ;have ac6:∀i,i<m->W.cell? ⟨lb,lo+i,none⟩=some (.int .u64 (V i:Int)):=λi Z=>(Η.cell (p:=⟨lb,lo+i,none⟩) Û).trans (sV i Z)
 have hTW:=hT.below Η hT.lt;have hG:=hT.lt;obtain⟨wa,bQ⟩:=ay (W.alloc (.cells #[.int .i64 0,.int .i64 0] 153));have ϴ:Kept [W.heap.size] W wa:=by rw[bQ];exact (Kept.refl _ _).alloc _
 have Į:wa.heap.size=W.heap.size+1:=by rw[bQ];simp
 have ac7:W.heap.size∉S0:=λh=>by have:=ac5 1 S0 W hJ0 _ h;omega
 have hIt:IQ wa U lb lo m c V W.heap.size 1:=by
  refine⟨ϴ.cell ae7 dH,λi Z=>ϴ.cell (ac6 i Z) dH,λj hj=>ϴ.cell (hTW j hj) dH,?_⟩;rw[bQ,ah.jX];exact heap_alloc_new _ _
 have H:=Ϛ hIt;have HJA:=Ϛ (hJk 1 S0 W wa hJ0 ϴ ac7);have ahY:=Ϛ ac5;have HJk:=Ϛ hJk;have HJy:=Ϛ hJy;have kU:Hid (∀wx,wx=W.alloc (.cells #[.int .i64 0,.int .i64 0] 153)->wx=wa):=λwx h=>h.trans bQ.symm
 have HS0:Hid (∀b,b∈S0->b ∉ [U,lb,13]/\b≠W.heap.size):=λb hb=>⟨hS0 b hb,λe=>ac7 (e ▸ hb)⟩
 have HV:=Ϛ hV;refine callsIn_of_wp func130 rfl trivial ?_ rfl;simp only[ntmps130,size_toArray,length_cons,length_nil,Nat.reduceAdd,Nat.reduceSub,Array.replicate_succ,Array.replicate_zero,push_toArray,append_toArray,nil_append,cons_append];gi_wp2;rw[kU.out _ rfl];gi_loopw [4,5,6] (λi _ _ wr=>∃(k:Nat) (S:List Nat),1<=k/\k<=m/\i = .int .i64 k/\J k S wr/\(∀b,b∈S->b ∉ [U,lb,13]/\b≠W.heap.size)/\IQ wr U lb lo m c V W.heap.size k) (λi _ _ _=>m-(intOf i).toNat);case atStart=>exact⟨1,S0,le_refl _,Ļ,rfl,HJA.out,HS0.out,H.out⟩
 case round=>
  obtain⟨k,S,ϓ,þ,rfl,hJ,hSn,Ý⟩:=hrel;have ϵ:=Ý.box;by_cases ύ:k<m
  ·obtain⟨j,rfl⟩:∃j,k=j+1:=⟨k-1,aZ⟩;have Ï:=Ý.vals (j+1) ύ;have ì:=Ý.vals j aZ;have Ŝ:=HV.out (j+1) ύ;have ñ:=HV.out j aZ;have zW:=u64_xor_nat (V (j+1)) (V j) Ŝ ñ;have Ç:=ah.qE (V (j+1)) (V j) Ŝ ñ;have hxe:l6 V (j+1)=V (j+1) ^^^ V j:=rfl;have Θ:=qh V m HV.out (j+1) aZ;have Ϗ:=ah.jS V (j+1) aZ;obtain⟨x,hx⟩:=ay (V (j+1) ^^^ V j);have hst':ah.aQ V (j+1+1)=ah.bV (ah.aQ V (j+1)) x:=by rw[Ϗ,hx];rfl
   rw[<-hx] at zW Ç hxe;have Ĥ:=λw0 İ=>EC (ah.aQ V (j+1)) x w0 Θ Ç İ
   rw[<-hst'] at Ĥ;obtain⟨L,hL⟩:=ay ((ah.aQ V (j+1)).2.1);obtain⟨Wd,hWd⟩:=ay (ah.aY (ah.aQ V (j+1)));have á:=Ý.win;rw[<-hL,<-hWd] at Ĥ á;unfold jd dG at Ĥ;have q0:=aj á 0;have q1:=aj á 1;have Ŗ:sJ V (j+1)=#[.agg #[.int .i64 ((ah.dZ (ah.aQ V (j+1)) x:Nat):Int),.int .i64 ((ah.aQ V (j+1+1)).2.1:Int),.int .i64 ((ah.aY (ah.aQ V (j+1+1)):Nat):Int)],.int .u64 (x:Int)]:=by
    unfold sJ mY dG;rw[hxe]
   obtain⟨y,Ł⟩:=ay (ah.dZ (ah.aQ V (j+1)) x);obtain⟨L2,υ⟩:=ay ((ah.aQ V (j+1+1)).2.1);obtain⟨W2,hW2⟩:=ay (ah.aY (ah.aQ V (j+1+1)));rw[<-Ł,<-υ,<-hW2] at Ĥ Ŗ;have HL2:=Ϛ υ;have HW2:=Ϛ hW2;generalize hV1:V (j+1)=V1 at *;generalize hV0:V j=V0 at *;have zu:=Ϛ Ĥ;have H:=Ϛ Ý;have HJ:=Ϛ hJ;have Vf:=Ϛ hSn;have ahZ:=Ϛ Ŗ;have sI:=Ϛ á;have hjI:(j:Int)+1<(m:Int):=aZ;clear Ĥ Ý hJ hSn hxe á Ϗ hst' Θ Ŝ ñ hx hL hWd hV1 hV0 Ç Ł υ hW2 Ŗ;gi_wp2;refine wpIn_wide.2 ?_;go_quiet (fail);gi_wp2_with fail;refine⟨trivial,rfl,?_⟩;refine CallsIn.mono (callsIn_wide.2 (zu.out _ (λi Z=>H.out.tab i Z))) ?_;rintro e w1 ⟨rfl,M⟩;have Ä:wr.heap.size<=w1.heap.size:=M.size;have ah0:Kept [W.heap.size] wr w1:=⟨M.os,M.tape,M.output,M.size,λb hb _=>M.block b hb⟩;obtain⟨A,hA⟩:=ay (w1.alloc (.cells #[.int .i64 (y:Int),.int .i64 (L2:Int),.int .i64 (W2:Int)] 156));have hkA:Kept [W.heap.size] wr A:=by rw[hA];exact ah0.alloc _
   have ah1:Kept [] wr A:=by rw[hA];exact (Kept.of_below (S:=[]) (⟨M.os,M.tape,M.output,M.size,M.block⟩:Below wr.heap.size wr w1)).alloc _
   have Y8:W.heap.size∉S:=λh=>(Vf.out _ h).2 rfl
   have hJA:=HJk.out _ S wr A HJ.out hkA Y8;have hpA:A.heap[w1.heap.size]? = some (.cells #[.int .i64 (y:Int),.int .i64 (L2:Int),.int .i64 (W2:Int)] 156 (0,0)):=by rw[hA];exact heap_alloc_new _ _
   have hsA:A.heap.size=w1.heap.size+1:=by rw[hA];simp
   have hpS:w1.heap.size∉S:=λh=>by have:=ahY.out _ S wr HJ.out _ h;omega
   obtain⟨fn,tmps,assign,body,hy,hR⟩:=HJy.out (j+1) S A ϓ ύ hJA;rw[ahZ.out] at hy;rw[hA] at hy;have ac9:=Ϛ (H.out.kept ah1 fE fE fE fE);have HR:=Ϛ hR;have HPA:=Ϛ hpA;have HHA:=Ϛ hA;gi_wp2;refine⟨rfl,?_⟩;rw[<-HHA.out];refine RoundIn.mono HR.out ?_;rintro e W3 ⟨rfl,S',hJ3,ö,hS3⟩;have hqA:W.heap.size<wr.heap.size:=lt_of_block sI.out;have hp3:=(ö.block _ aZ hpS).trans HPA.out;have I:=ac9.out.kept ö (λh=>(Vf.out _ h).1 fE) (λh=>(Vf.out _ h).1 fE) (λh=>(Vf.out _ h).1 fE) Y8;have Hg:W3.heap[W.heap.size]? = some (.cells #[.int .i64 (L:Int),.int .i64 (Wd:Int)] 153 (0,0)):=by
    have h1:=ac9.out.win;have h2:A.heap[W.heap.size]? = some (.cells #[.int .i64 (L:Int),.int .i64 (Wd:Int)] 153 (0,0)):=by
     rw[h1,<-H.out.win];exact sI.out
    exact (ö.block _ aZ Y8).trans h2
   have p1:=aj hp3 1;have p2:=aj hp3 2;have z0:=aj Hg 0;have z1:=aj Hg 1;have y0:=aA Hg 0;have y1:=aA Hg 1;have ah2:W.heap.size∉S':=λh=>by rcases hS3 _ h with h|h;exact Y8 h;omega
   obtain⟨B,hB⟩:=ay ((W3.setCell ⟨W.heap.size,0,none⟩ (.int .i64 (L2:Int))).setCell ⟨W.heap.size,1,none⟩ (.int .i64 (W2:Int)));have hkB:Kept [W.heap.size] W3 B:=by rw[hB];exact ((Kept.refl _ _).setCell (.inl fE) _).setCell (.inl fE) _
   have hJB:=HJk.out _ S' W3 B hJ3 hkB ah2;have ah3:IQ B U lb lo m c V W.heap.size (j+1+1):=by
    refine⟨hkB.cell I.box dH,λi Z=>hkB.cell (I.vals i Z) dH,λi Z=>hkB.cell (I.tab i Z) dH,?_⟩;rw[hB,heap_set (heap_set Hg 0 _) 1 _,HL2.out,HW2.out];rfl
   have hSB:∀b,b∈S'->b ∉ [U,lb,13]/\b≠W.heap.size:=by
    intro b hb;rcases hS3 b hb with h|h
    ·exact Vf.out b h
    ·refine⟨?_,aZ⟩;simp
     omega
   have HHB:=Ϛ hB;have HJB:=Ϛ hJB;have ah4:=Ϛ ah3;have HSB:=Ϛ hSB;gi_wp2;go_roundw;case rel=>rw[<-HHB.out];exact⟨j+1+1,S',aZ,aZ,fT,HJB.out,HSB.out,ah4.out⟩
   case measure=>simp[intOf];omega
  ·have:k=m:=aZ;subst this;have HJ:=Ϛ hJ;gi_wp2;go_end0;exact⟨⟨_,rfl⟩,S,HJ.out⟩
attribute [local go_sem] Oper.semAt_some
theorem Vg(V:Nat->Nat)(m:Nat)(e:∀i,i<m->V i<18446744073709551616)(k:Nat)(J:1<=k)(hk:k<m):
  (ah.bG (ah.aQ V k) (l6 V k)).length=ah.kr (ah.partsOf (ah.dZ (ah.aQ V k) (l6 V k)) (ah.aQ V (k+1)).2.1 (ah.aY (ah.aQ V (k+1))) (l6 V k)):=by
 have I:=ah.qE (V k) (V (k-1)) (e k hk) (e (k-1) aZ);have H:=qh V m e k aZ;rw[ah.jS V k aZ];show (ah.bG _ (V k ^^^ V (k-1))).length=_;rw[ah.EF H _ I];rfl
theorem wrap_small(n:Int)(e:0<=n)(H:n<=1000000):IntKind.i64.wrap n=n:=by
 rw[IntKind.wrap_i64];omega
theorem Sd{w W e:World}{a N n:Int}(I:W.heap[w.heap.size]? = some (.cells #[.int .i64 a] 3 (0,0)))(J:Below w.heap.size w W)(H:Below W.heap.size W e)(hn:N=n):
  (e.setCell ⟨w.heap.size,0,none⟩ (.int .i64 n)).heap[w.heap.size]? = some (.cells #[.int .i64 N] 3 (0,0))/\Below w.heap.size w (e.setCell ⟨w.heap.size,0,none⟩ (.int .i64 n))/\Kept [w.heap.size] W (e.setCell ⟨w.heap.size,0,none⟩ (.int .i64 n)):=by
 subst hn;refine⟨?_,(J.trans (H.mono J.size)).setCell (le_refl _) _,(Kept.of_below H).setCell (.inl fE) _⟩;rw[heap_set ((H.block _ (lt_of_block I)).trans I) 0 _];rfl
theorem Si(lb lo m c:Nat)(V:Nat->Nat)(w:World)(Ļ:1<=m)(hm:m<=1000)(hV:∀i,i<m->V i<18446744073709551616)
  (sV:∀i,i<m->w.cell? ⟨lb,lo+i,none⟩=some (.int .u64 (V i:Int))) (M:Tab w) :
  Calls prog 109 #[.slice (some ⟨lb,lo,none⟩) m c] w λe w'=>e = .returned (.int .i64 ((ah.bF V m).length:Int))/\Below w.heap.size w w':=by
 have ŝ:((m:Int)==0)=false:=gD;have Û:=lt_of_cell (sV 0 Ļ);have ae8:=Ϛ sV;have HV:=Ϛ hV;have HT:Hid (Tab w):=M;have hG:=M.lt;refine callsIn_wide.1 (callsIn_of_wp_marks (n:=0) func109 rfl trivial (wpIn_wide.2 ?_));simp only[ntmps109,size_toArray,length_cons,length_nil,Nat.reduceAdd,Nat.reduceSub,Array.replicate_succ,Array.replicate_zero,push_toArray,append_toArray,nil_append,cons_append];go_wp2_with fail;refine Calls.mono (EH _ _ _ _) ?_;rintro e w1 ⟨rfl,rfl⟩;go_wp2;obtain⟨J,œ⟩:=ay ((w.alloc (.cells #[.int .i64 64] 3)).alloc (.cells #[.slice (some ⟨lb,lo,none⟩) m c] 63));have ř:J.heap.size=w.heap.size+2:=by rw[œ];simp
 have ϵ:Below w.heap.size w J:=by rw[œ];exact ((Below.refl _ _).alloc (le_refl _) _).alloc fE _
 have ä:J.heap[w.heap.size]? = some (.cells #[.int .i64 64] 3 (0,0)):=by
  rw[œ,Below.heap_alloc _ _ _ fE];exact heap_alloc_new _ _
 have U:J.heap[w.heap.size+1]? = some (.cells #[.slice (some ⟨lb,lo,none⟩) m c] 63 (0,0)):=by
  rw[œ];have:=heap_alloc_new (w.alloc (.cells #[.int .i64 64] 3)) (.cells #[.slice (some ⟨lb,lo,none⟩) m c] 63);simpa using this
 rw[<-œ];refine CG (gf:=130) (lb:=#[.pointer (some ⟨w.heap.size+1,0,none⟩)]) rfl (enters_of func130 (by kernel_rfl) rfl) m (sJ V) (λ_=>rfl) [w.heap.size+1,lb,13] (λb H=>by simp at H;omega)
  (yh (w.heap.size+1) lb lo m c V J Ļ hm HV.out (aj U 0) (λi hi=>(ϵ.cell (p:=⟨lb,lo+i,none⟩) Û).trans (ae8.out i hi)) (HT.out.below ϵ hG))
  (λk S W=>S = [w.heap.size]/\W.heap[w.heap.size]? = some (.cells #[.int .i64 ((ah.bF V k).length:Int)] 3 (0,0))/\Below w.heap.size w W)
  ?lt ?abide [w.heap.size] ?start ?apart (λk=>.cells #[.int .i64 ((ah.dZ (ah.aQ V k) (l6 V k):Nat):Int),.int .i64 ((ah.aQ V (k+1)).2.1:Int),.int .i64 ((ah.aY (ah.aQ V (k+1)):Nat):Int)] 156)
  (λk p=>{ tmps:=#[.slice (some ⟨lb,lo,none⟩) m c,undef,.int .i64 0,.pointer (some ⟨w.heap.size,0,none⟩),.pointer (some ⟨p,0,none⟩),.slice (some ⟨lb,lo,none⟩) m c,.int .i64 (m:Int),.bool false,.slice (some ⟨lb,lo,none⟩) m c,.func (.func 130) #[] #[.pointer (some ⟨w.heap.size+1,0,none⟩)],mY V k,.int .u64 (l6 V k:Int),undef,undef,undef,undef,undef],defers:=[] })
  ?assign ?body ?done
 case lt=>
  rintro k S A ⟨rfl,H,_⟩ b hm;simp at hm;subst hm;exact lt_of_block H
 case abide=>
  rintro k S T A B ⟨rfl,H,I⟩ hk M;have hn:w.heap.size∉T:=λh=>(M _ h).1 fE
  exact⟨rfl,(hk.block _ (lt_of_block H) hn).trans H,I.trans (hk.below I.size (λx hx=>by have:=(M x hx).2;omega))⟩
 case start=>exact⟨rfl,by rw[ah.iI,ah.aD];exact ä,ϵ⟩
 case apart=>intro b H;simp at H;subst H;simp;omega
 case assign=>
  intro l k W K hK;unfold mY dG at hK;unfold sJ mY dG;gi_wp2;exact hK
 case body=>
  rintro l k S W p ϓ þ ⟨rfl,H,I⟩ hp hpS;have ϕ:=Vg V m HV.out k ϓ þ;have Ì:=ah.gY V k aZ;have Θ:=qh V m HV.out (k+1) aZ;have ŗ:=ah.qy Θ;have hy:ah.dZ (ah.aQ V k) (l6 V k)<=2:=by unfold ah.dZ;(repeat' split)<;>omega
  have é:=ah.kN V k;have Z:=ah.BA (ah.aQ V k) (l6 V k);rw[ah.R3] at ϕ;have Ϣ:=λw0=>R5 (ah.dZ (ah.aQ V k) (l6 V k)) (ah.aQ V (k+1)).2.1 (ah.aY (ah.aQ V (k+1))) w0 hy ŗ
  rw[<-ϕ] at Ϣ;have ϻ:((ah.bF V (k+1)).length:Int)=((ah.bF V k).length:Int)+((ah.bG (ah.aQ V k) (l6 V k)).length:Int):=by
   rw[Ì,length_append];exact Int.natCast_add _ _
  unfold dG at Ϣ;unfold mY dG;generalize ah.dZ (ah.aQ V k) (l6 V k)=y at *;generalize (ah.aQ V (k+1)).2.1=L2 at *;generalize ah.aY (ah.aQ V (k+1))=W2 at *;generalize (ah.bG (ah.aQ V k) (l6 V k)).length=ad at *;generalize (ah.bF V k).length=tot at *;have yK:=Ϛ ϻ;have nH:=Ϛ Ϣ;have htI:(tot:Int)<=77000:=aZ
  have haI:(ad:Int)<=77:=aZ;have c0:=aj H 0;have f0:=aA H 0;have d0:=aj hp 0;have d1:=aj hp 1;have d2:=aj hp 2;have Sj:=Ϛ I;have HBX:=Ϛ H;have Ê:=lt_of_block H;have alR:prog.follows .mixedOrders=true:=by kernel_rfl
  clear ϻ Ϣ ϕ Ì Θ ŗ hy é Z I H ä U hp;gi_wp2_with fail;gi_region_with_o ((refine⟨trivial,rfl,?_⟩;refine CallsIn.mono (CallsIn.inRound l (callsIn_wide.2 (nH.out _))) ?_;rintro e w2 ⟨rfl,ϔ⟩;have k0:w2.cell? ⟨w.heap.size,0,none⟩=some (.int .i64 (tot:Int)):=(ϔ.cell (p:=⟨w.heap.size,0,none⟩) Ê).trans c0;have k1:w2.frozen? ⟨w.heap.size,0,none⟩=false:=(ϔ.frozen (p:=⟨w.heap.size,0,none⟩) Ê).trans f0;have HB2:=Ϛ ϔ;clear ϔ));all_goals
   have Ă:=Sd (w:=w) (N:=((ah.bF V (k+1)).length:Int)) HBX.out Sj.out (wN HB2.out) (yK.out.trans (wrap_small _ aZ aZ).symm);exact⟨[w.heap.size],⟨rfl,Ă.1,Ă.2.1⟩,Ă.2.2,λb H=>.inl H⟩
 case done=>
  rintro D S W hD ⟨rfl,H,I⟩ hDS hK;have c0:=aj H 0;have Sj:=Ϛ I;go_wp2;refine⟨fE,.inl ⟨_,_,rfl,run_takeDeferred hK,?_⟩⟩;exact⟨_,results_tmp rfl _ _ _,rfl,Sj.out.trans (((Kept.refl [D] W).put _ _ (.inl fE)).below Sj.out.size (λx hx=>by simp at hx;subst hx;omega))⟩
attribute [local go_sem] Oper.semAt_some
theorem Vh(H:Option Addr)(c:Nat)(w:World)(p:Addr):
  Calls prog 64 #[.pointer (some p),.slice H 0 c] w λe w'=>e = .returned .nilIface/\Below w.heap.size w w':=by
 go_enter func64,ntmps64;go_wp2;exact bodyPost_ret (v:=.nilIface) (by simp[results,results64,go_sem]) rfl ⟨rfl,((Below.refl _ _).alloc (le_refl _) _).alloc fE _⟩
structure pG(w w':World)(r:Nat)(v:Value)(bs:List Bool)(lb lo m:Nat)(V:Nat->Nat):Prop where
 row:dh w' r v bs
 vals:∀i,i<m->w'.cell? ⟨lb,lo+i,none⟩=some (.int .u64 (V i:Int))
 tab:Tab w'
 box:w'.heap[w.heap.size]? = some (.cells #[.pointer (some ⟨r,0,none⟩)] 119 (0,0))
 err:w'.heap[w.heap.size+1]? = some (.cells #[.nilIface] 28 (0,0))
 eB:Below w.heap.size w w'
theorem pG.below{w a b:World}{r:Nat}{v:Value}{I:List Bool}{lb H m:Nat}{V:Nat->Nat}(h:pG w a r v I lb H m V)(e:Below a.heap.size a b):pG w b r v I lb H m V:=
 ⟨h.row.below e,λi J=>(e.cell (p:=⟨lb,H+i,none⟩) (lt_of_cell (h.vals i J))).trans (h.vals i J),h.tab.below e h.tab.lt,(e.block _ (lt_of_block h.box)).trans h.box,(e.block _ (lt_of_block h.err)).trans h.err,h.eB.trans (e.mono h.eB.size)⟩
theorem pG.drew{w a:World}{r:Nat}{v:Value}{e:List Bool}{lb H m:Nat}{V:Nat->Nat}(h:pG w a r v e lb H m V):pG w a.drew r v e lb H m V:=
 h.below ⟨rfl,rfl,rfl,le_refl _,λ_ _=>rfl⟩
theorem qY{w w':World}{T:List Nat}{base:Nat}{e:TypeId}{s:Nat}{v:Value}{n:Nat}{M:List Value}(h:w.ownsRow base e s v n M)(hk:Kept T w w')(U:∀b,b∈v.ownBlock.toList->b∉T):w'.ownsRow base e s v n M:=by
 obtain⟨hl,H⟩:=h;refine⟨hl,?_⟩;rcases H with H|⟨g,cap,cur,J,Z,I,rest⟩
 ·exact .inl H
 ·exact .inr ⟨g,cap,cur,J,Z,(hk.block g (lt_of_block I) (U g (by rw[J];simp[Value.ownBlock]))).trans I,rest⟩
theorem dh.je{w w':World}{T:List Nat}{r:Nat}{v:Value}{e:List Bool}(h:dh w r v e)(hk:Kept T w w')(H:∀b,b∈r::v.ownBlock.toList->b∉T):dh w' r v e:=
 ⟨(hk.block r h.lt (H r fE)).trans h.hb,qY h.own hk (λb I=>H b (mem_cons_of_mem _ I))⟩
structure sW(w w':World)(r:Nat)(v vk:Value)(bs:List Bool):Prop where
 row:dh w' r vk bs
 box:w'.heap[w.heap.size]? = some (.cells #[.pointer (some ⟨r,0,none⟩)] 119 (0,0))
 err:w'.heap[w.heap.size+1]? = some (.cells #[.nilIface] 28 (0,0))
 kept:Kept (r::v.ownBlock.toList) w w'
 grew:vk.ownBlock=v.ownBlock\/∃g,vk.ownBlock=some g/\w.heap.size+2<=g
theorem sW.mem{w w':World}{r:Nat}{v I:Value}{J:List Bool}(h:sW w w' r v I J):∀x,x∈r::I.ownBlock.toList->x∈r::v.ownBlock.toList\/w.heap.size+2<=x:=by
 intro x U;rcases mem_cons.1 U with H|H
 ·exact .inl (by rw[H];simp)
 ·rcases h.grew with e|⟨g,e,M⟩
  ·rw[e] at H;exact .inl (mem_cons.2 (.inr H))
  ·rw[e] at H;simp at H;subst H;exact .inr M
theorem sW.step{w a b:World}{r:Nat}{v J Z:Value}{bs H:List Bool}(h:sW w a r v J bs)(hv:∀x,x∈r::v.ownBlock.toList->x<w.heap.size)(hr:dh b r Z H)(hk:Kept (r::J.ownBlock.toList) a b)(I:iZ a J Z):sW w b r v Z H:=by
 have hw:∀x,w.heap.size<=x->x<w.heap.size+2->x∉r::J.ownBlock.toList:=λx U h2 hm=>by
  rcases h.mem x hm with h3|h3
  ·have:=hv x h3;omega
  ·omega
 refine⟨hr,(hk.block _ (lt_of_block h.box) (hw _ (le_refl _) aZ)).trans h.box,(hk.block _ (lt_of_block h.err) (hw _ aZ aZ)).trans h.err,h.kept.trans hk (λx hx=>?_),?_⟩
 ·rcases h.mem x hx with U|U
  ·exact .inl U
  ·exact .inr aZ
 ·have:=lt_of_block h.err;rcases I with e|⟨g,e,I⟩
  ·rcases h.grew with M|⟨g,M,I⟩
   ·exact .inl (e.trans M)
   ·exact .inr ⟨g,e.trans M,I⟩
  ·exact .inr ⟨g,e,aZ⟩
theorem sW.je{w a b:World}{T:List Nat}{r:Nat}{v J:Value}{M:List Bool}(h:sW w a r v J M)(hk:Kept T a b)(H:∀x,x∈T->x∉r::J.ownBlock.toList/\w.heap.size+2<=x):sW w b r v J M:=
 ⟨h.row.je hk (λx I e=>(H x e).1 I),(hk.block _ (lt_of_block h.box) (λe=>by have:=(H _ e).2;omega)).trans h.box,(hk.block _ (lt_of_block h.err) (λe=>by have:=(H _ e).2;omega)).trans h.err,
  h.kept.trans hk (λx I=>.inr (by have:=(H x I).2;omega)),h.grew⟩
theorem yO(V:Nat->Nat)(a:Nat):∀b,a<=b->(ah.bF V a).length<=(ah.bF V b).length
 | 0,h=>by obtain rfl:a=0:=aZ;exact le_refl _
 | b+1,h=>by
  rcases lt_or_ge b a with e|e
  ·have:a=b+1:=aZ;subst this;exact le_refl _
  ·have I:=yO V a b e;by_cases H:b=0
   ·subst H;have:a=0:=aZ
    subst this;simp[ah.bF]
   ·rw[ah.gY V b H,length_append];omega
theorem Vi(lb lo m c:Nat)(V:Nat->Nat)(w:World)(Ļ:1<=m)(hm:m<=1000)(hV:∀i,i<m->V i<18446744073709551616)
  (sV:∀i,i<m->w.cell? ⟨lb,lo+i,none⟩=some (.int .u64 (V i:Int))) (hT:Tab w) (r:Nat) (v:Value) (H:List Bool) (hr:dh w r v H) (Û:lb∉r::v.ownBlock.toList) (hGr:13<r)
  (Ϣ:H.length+(ah.bF V m).length<=1048576) :
  Calls prog 64 #[.pointer (some ⟨r,0,none⟩),.slice (some ⟨lb,lo,none⟩) m c] w λe w'=>e = .returned .nilIface/\∃v',dh w' r v' (H++ah.bF V m)/\Kept (r::v.ownBlock.toList) w w'/\iZ w v v':=by
 have ŝ:((m:Int)==0)=false:=gD;obtain⟨W0,œ⟩:=ay ((w.alloc (.cells #[.pointer (some ⟨r,0,none⟩)] 119)).alloc (.cells #[.nilIface] 28));have ϵ:Below w.heap.size w W0:=by rw[œ];exact ((Below.refl _ _).alloc (le_refl _) _).alloc fE _
 have hP0:pG w W0 r v H lb lo m V:=by
  refine⟨hr.below ϵ,λi hi=>(ϵ.cell (p:=⟨lb,lo+i,none⟩) (lt_of_cell (sV i hi))).trans (sV i hi),hT.below ϵ hT.lt,?_,?_,ϵ⟩
  ·rw[œ,Below.heap_alloc _ _ _ fE];exact heap_alloc_new _ _
  ·rw[œ];have:=heap_alloc_new (w.alloc (.cells #[.pointer (some ⟨r,0,none⟩)] 119)) (.cells #[.nilIface] 28);simpa using this
 have Y9:=Ϛ hP0;have HW0:=Ϛ œ;have HV:=Ϛ hV;have nH:=Ϛ Ϣ;have HLB:=Ϛ Û;have HR:=Ϛ hr;have hsize:∀J,pG w J r v H lb lo m V->Calls prog 109 #[.slice (some ⟨lb,lo,none⟩) m c] J λe w'=>e = .returned (.int .i64 ((ah.bF V m).length:Int))/\w'.cell? ⟨w.heap.size,0,none⟩=some (.pointer (some ⟨r,0,none⟩))/\pG w w' r v H lb lo m V:=λJ I=>by
  refine (Si lb lo m c V J Ļ hm hV I.vals I.tab).mono ?_;rintro e w' ⟨rfl,U⟩;have h1:=I.below U;exact⟨rfl,aj h1.box 0,h1⟩
 have Ŕ:∀J,pG w J r v H lb lo m V->Calls prog 103 #[.pointer (some ⟨r,0,none⟩)] J λe w'=>e = .returned (.int .i64 (1048576-(H.length:Int)))/\w'.cell? ⟨w.heap.size,0,none⟩=some (.pointer (some ⟨r,0,none⟩))/\pG w w' r v H lb lo m V:=λJ I=>by
  refine (zI J r v H I.row aZ).mono ?_;rintro e w' ⟨rfl,rfl⟩;exact⟨rfl,aj I.box 0,I⟩
 have Ĝ:∀J,pG w J r v H lb lo m V->Calls prog 62 #[.pointer (some ⟨r,0,none⟩),.int .u64 (V 0:Int),.int .i64 64] J λe w'=>e = .returned .nilIface/\(w'.cell? ⟨w.heap.size,0,none⟩=some (.pointer (some ⟨r,0,none⟩))/\w'.cell? ⟨lb,lo,none⟩=some (.int .u64 (V 0:Int)))/\∃v1,sW w w' r v v1 (H++ah.bF V 1)/\(∀i,i<m->w'.cell? ⟨lb,lo+i,none⟩=some (.int .u64 (V i:Int)))/\Tab w':=λJ I=>by
  have ż:=yO V 1 m Ļ;rw[ah.iI,ah.aD] at ż;have ñ:=hV 0 Ļ;refine (jC J r v H I.row (V 0) 64 aZ aZ aZ).mono ?_;rintro e w' ⟨rfl,v1,ϩ,ϓ,Ë⟩;have hwS:∀x,w.heap.size<=x->x∉r::v.ownBlock.toList:=λx hx hm=>by have:=hr.gH x hm;omega
  have ä:=(ϓ.block _ (lt_of_block I.box) (hwS _ (le_refl _))).trans I.box;have Vj:∀i,i<m->w'.cell? ⟨lb,lo+i,none⟩=some (.int .u64 (V i:Int)):=λi hi=>ϓ.cell (I.vals i hi) Û
  refine⟨rfl,⟨aj ä 0,by simpa using Vj 0 Ļ⟩,v1,⟨by rw[ah.iI];exact ϩ,ä,(ϓ.block _ (lt_of_block I.err) (hwS _ aZ)).trans I.err,(Kept.of_below I.eB).trans ϓ (λx hx=>.inl hx),by have:=lt_of_block I.err;rcases Ë with e|⟨g,e,hg⟩;exact .inl e;exact .inr ⟨g,e,aZ⟩⟩,Vj,λj hj=>ϓ.cell (I.tab j hj) (λhm=>by have:=hr.zq _ hm;omega)⟩
 have yN:=Ϛ Ĝ;have ae9:=Ϛ hsize;have RL:=Ϛ Ŕ;have alS:decide ((1048576:Int)-(H.length:Int)<((ah.bF V m).length:Int))=false:=dH;generalize hLN:(ah.bF V m).length=LN at *;have PX:=Ϛ hLN;have Cx:=Ϛ (lt_of_cell (sV 0 Ļ));clear Ĝ hsize Ŕ hP0 œ ϵ hr hT sV hV Ϣ Û hLN;refine callsIn_wide.1 (callsIn_of_wp_marks (n:=0) func64 rfl trivial (wpIn_wide.2 ?_));simp only[ntmps64,size_toArray,length_cons,length_nil,Nat.reduceAdd,Nat.reduceSub,Array.replicate_succ,Array.replicate_zero,push_toArray,append_toArray,nil_append,cons_append];go_wp2_with fail;have c0:=aj Y9.out.box 0;rw[<-HW0.out];go_region_held3 (λw'=>w'.cell? ⟨w.heap.size,0,none⟩=some (.pointer (some ⟨r,0,none⟩))) (go_keep) ((first|(go_at_call 109;refine Calls.mono (ae9.out _ (by first|exact Y9.out|exact Y9.out.drew)) ?_;rintro e w1 ⟨rfl,k1,ĉ⟩;have rM:=Ϛ ĉ;clear ĉ Y9)|(go_at_call 103;refine Calls.mono (RL.out _ (by first|exact rM.out|exact rM.out.drew)) ?_;rintro e w2 ⟨rfl,k2,ł⟩;have xZ:=Ϛ ł;clear ł rM)));have ì:w2.cell? ⟨lb,lo,none⟩=some (.int .u64 (V 0:Int)):=by simpa using xZ.out.vals 0 Ļ
 have hmN:0<m:=Ļ;go_wp2_with fail;go_region_held3 (λw'=>w'.cell? ⟨w.heap.size,0,none⟩=some (.pointer (some ⟨r,0,none⟩))/\w'.cell? ⟨lb,lo,none⟩=some (.int .u64 (V 0:Int))) (go_keep) ((go_at_call 62;refine Calls.mono (yN.out _ (by first|exact xZ.out|exact xZ.out.drew)) ?_;rintro e w3 ⟨rfl,⟨k3,k4⟩,v1,M,Á,κ⟩;have wM:=Ϛ M;have zi:=Ϛ Á;have zx:Hid (Tab w3):=κ;clear M Á κ xZ yN));go_wp2_with fail;refine Calls.mono (EH _ _ _ _) ?_;rintro e w4 ⟨rfl,rfl⟩;go_wp2;obtain⟨W4,Za⟩:=ay (w3.alloc (.cells #[.slice (some ⟨lb,lo,none⟩) m c] 63));have hs4:W4.heap.size=w3.heap.size+1:=by rw[Za];simp
 have ġ:Kept [] w3 W4:=by rw[Za];exact (Kept.refl _ _).alloc _
 have hbn:W4.heap[w3.heap.size]? = some (.cells #[.slice (some ⟨lb,lo,none⟩) m c] 63 (0,0)):=by rw[Za];exact heap_alloc_new _ _
 rw[<-Za];have ah5:=wM.out.je ġ (λx hx=>by cases hx);have ş:=lt_of_block wM.out.err;have alT:=lt_of_cell (zi.out 0 Ļ);have hG3:=zx.out.lt;refine CG (gf:=130) (lb:=#[.pointer (some ⟨w3.heap.size,0,none⟩)]) rfl (enters_of func130 (by kernel_rfl) rfl) m (sJ V) (λ_=>rfl) [w3.heap.size,lb,13] (λb U=>by simp at U;omega)
  (yh w3.heap.size lb lo m c V W4 Ļ hm HV.out (aj hbn 0) (λi hi=>ġ.cell (zi.out i hi) fE) (λj hj=>ġ.cell (zx.out j hj) fE))
  (λk S W=>∃vk,S=r::vk.ownBlock.toList/\sW w W r v vk (H++ah.bF V k))
  ?lt ?abide (r::v1.ownBlock.toList) ?start ?apart (λk=>.cells #[.int .i64 ((ah.dZ (ah.aQ V k) (l6 V k):Nat):Int),.int .i64 ((ah.aQ V (k+1)).2.1:Int),.int .i64 ((ah.aY (ah.aQ V (k+1)):Nat):Int)] 156)
  (λk p=>{ tmps:=#[.pointer (some ⟨r,0,none⟩),.slice (some ⟨lb,lo,none⟩) m c,.pointer (some ⟨w.heap.size,0,none⟩),undef,.pointer (some ⟨w.heap.size+1,0,none⟩),.nilIface,.pointer (some ⟨p,0,none⟩),.int .u64 (l6 V k:Int),undef,
   .pointer (some ⟨r,0,none⟩),.bool false,undef,.slice (some ⟨lb,lo,none⟩) m c,.int .i64 (m:Int),.bool false,.slice (some ⟨lb,lo,none⟩) m c,.int .i64 (LN:Int),.pointer (some ⟨r,0,none⟩),.int .i64 (1048576-(H.length:Int)),.bool false,
   undef,.pointer (some ⟨r,0,none⟩),.slice (some ⟨lb,lo,none⟩) m c,.pointer (some ⟨lb,lo,none⟩),.int .u64 (V 0:Int),.nilIface,.nilIface,.bool false,undef,.slice (some ⟨lb,lo,none⟩) m c,.func (.func 130) #[] #[.pointer (some ⟨w3.heap.size,0,none⟩)],mY V k,.int .u64 (l6 V k:Int),undef,undef,undef,undef,undef,undef,undef],defers:=[] })
  ?assign ?body ?done
 case lt=>
  rintro k S A ⟨vk,rfl,M⟩ b U;exact M.row.gH b U
 case abide=>
  rintro k S T A B ⟨vk,rfl,M⟩ hk hT;exact⟨vk,rfl,M.je hk (λx hx=>⟨(hT x hx).1,by have:=(hT x hx).2;omega⟩)⟩
 case start=>exact⟨v1,rfl,ah5⟩
 case apart=>
  intro b U hp;have ύ:=wM.out.row.gH b U;have Ĉ:=wM.out.row.zq b U;simp at hp;rcases hp with hp|hp|hp
  ·omega
  ·subst hp;rcases wM.out.mem b U with h|h
   ·exact HLB.out h
   ·have:=Cx.out;omega
  ·omega
 case assign=>
  intro l k W K hK;unfold mY dG at hK;unfold sJ mY dG;gi_wp2;exact hK
 case body=>
  rintro l k S W p ϓ þ ⟨vk,rfl,M⟩ hp hpS;have hx:=ah.qE (V k) (V (k-1)) (HV.out k þ) (HV.out (k-1) aZ);have hu:=qh V m HV.out k aZ;have Θ:=qh V m HV.out (k+1) aZ;have ŗ:=ah.qy Θ;have hy:ah.dZ (ah.aQ V k) (l6 V k)<=2:=by unfold ah.dZ;(repeat' split)<;>omega
  have Ì:=ah.gY V k aZ;have ξ:=ah.EF hu _ hx;rw[<-ah.jS V k aZ] at ξ;have ż:=yO V (k+1) m aZ;have Ϣ:=nH.out;have Ĝ:=U8 (ah.dZ (ah.aQ V k) (l6 V k)) (ah.aQ V (k+1)).2.1 (ah.aY (ah.aQ V (k+1))) (l6 V k) W hy ŗ hx r vk (H++ah.bF V k) M.row (by
   have e:ah.kr (ah.partsOf (ah.dZ (ah.aQ V k) (l6 V k)) (ah.aQ V (k+1)).2.1 (ah.aY (ah.aQ V (k+1))) (l6 V k))=(ah.bG (ah.aQ V k) (V k ^^^ V (k-1))).length:=by rw[ξ];rfl
   rw[e,length_append];rw[Ì,length_append] at ż;have:=PX.out;omega)
  have ϻ:H++ah.bF V k++ah.iU (ah.partsOf (ah.dZ (ah.aQ V k) (l6 V k)) (ah.aQ V (k+1)).2.1 (ah.aY (ah.aQ V (k+1))) (l6 V k))=H++ah.bF V (k+1):=by
   rw[Ì,ξ,append_assoc];rfl
  rw[ϻ] at Ĝ;unfold dG at Ĝ;unfold mY dG;generalize ah.dZ (ah.aQ V k) (l6 V k)=y at *;generalize (ah.aQ V (k+1)).2.1=L2 at *;generalize ah.aY (ah.aQ V (k+1))=W2 at *;have yN:=Ϛ Ĝ;have Ni:=Ϛ M;have c0:=aj M.box 0;have d0:=aj hp 0;have d1:=aj hp 1;have d2:=aj hp 2;generalize l6 V k=x at *;gi_wp2_with fail;refine⟨trivial,rfl,?_⟩;refine CallsIn.mono (CallsIn.inRound l (callsIn_wide.2 yN.out)) ?_;rintro e w5 ⟨rfl,v5,MU,hk5,hg5⟩;have ah6:=Ni.out.step HR.out.gH MU hk5 hg5;have ah7:=Ϛ ah6;have HK5:=Ϛ hk5;have HG5:=Ϛ hg5;gi_wp2;exact⟨r::v5.ownBlock.toList,⟨v5,rfl,ah7.out⟩,HK5.out,iZ.mem HG5.out⟩
 case done=>
  rintro D S W hD ⟨vk,rfl,M⟩ hDS hK;have c0:=aj M.err 0;have f0:=aA M.err 0;have Ni:=Ϛ M;go_wp2;have hK':(W.setCell ⟨w.heap.size+1,0,none⟩ .nilIface).heap[D]? = some (.deferred (some [])):=(Below.heap_setCell _ _ _ _ (by show D≠w.heap.size+1;omega)).trans hK;obtain⟨Z,hZ⟩:=ay ((W.setCell ⟨w.heap.size+1,0,none⟩ .nilIface).putObj D (.deferred none));have hkZ:Kept [w.heap.size+1,D] W Z:=by rw[hZ];exact ((Kept.refl _ _).setCell (.inl fE) _).put _ _ (.inl fE)
  have hcZ:Z.cell? ⟨w.heap.size+1,0,none⟩=some .nilIface:=by
   refine aj (cs:=#[.nilIface]) (t:=28) ?_ 0;rw[hZ,World.putObj_heap_other aZ,heap_set Ni.out.err 0 _];rfl
  have afa:dh Z r vk (H++ah.bF V m):=Ni.out.row.je hkZ (λb U hm=>by
   simp at hm;rcases hm with hm|hm
   ·rcases Ni.out.mem b U with h|h
    ·have:=HR.out.gH b h;omega
    ·omega
   ·subst hm;exact hDS U)
  refine⟨fE,.inl ⟨_,_,rfl,run_takeDeferred hK',?_⟩⟩;rw[<-hZ];refine⟨.nilIface,by simp[results,results64,go_sem,hcZ],rfl,vk,afa,Ni.out.kept.trans hkZ (λx hx=>.inr (by simp at hx;omega)),?_⟩;rcases Ni.out.grew with e|⟨g,e,hg⟩
  ·exact .inl e
  ·exact .inr ⟨g,e,aZ⟩
theorem XJ(w:World)(hT:Tab w)(I:Option Addr)(n c:Nat)(B:Nat->Nat)(hU:oU w I n B)(hn:n<=1000)(r:Nat)(v:Value)(H:List Bool)(hr:dh w r v H)(ϝ:∀x,I=some x->x.block∉r::v.ownBlock.toList)(J:13<r)
  (Ϣ:H.length+(ah.bF B n).length<=1048576) :
  Calls prog 64 #[.pointer (some ⟨r,0,none⟩),.slice I n c] w λe w'=>e = .returned .nilIface/\∃v',dh w' r v' (H++ah.bF B n)/\Kept (r::v.ownBlock.toList) w w'/\iZ w v v':=by
 by_cases U:n=0
 ·subst U;refine (Vh I c w ⟨r,0,none⟩).mono ?_;rintro e w' ⟨rfl,Z⟩;exact⟨rfl,v,by rw[show ah.bF B 0 = [] from rfl,append_nil];exact hr.below Z,Kept.of_below Z,.inl rfl⟩
 ·rcases hU with h|⟨b,o,rfl,hc⟩
  ·exact absurd h U
  ·exact Vi b o n c B w aZ hn (λi M=>(hc i M).2) (λi M=>(hc i M).1) hT r v H hr (ϝ _ rfl) J Ϣ
theorem JZ(w:World)(hF:Forms w)(hT:Tab w)(la:Option Addr)(n c:Nat)(T:Nat->Int)(B:Nat->Nat)(hP:jq w la n T B)(hn:n<=120)(Ϥ:∀i,i<n -> -1099511627776<=T i/\T i<=1099511627776):
  Calls prog 39 #[.slice la n c] w λe w'=>e = .returned (.tuple #[.string ⟨(ah.pack (bN T B n)).toArray⟩,.nilIface])/\Below w.heap.size w w':=by
 have HP:Hid (jq w la n T B):=hP;have jk:=Ϛ Ϥ;have HF:Hid (Forms w):=hF;have HT:Hid (Tab w):=hT;have rR:=hF.lt;have yg:=hT.lt;go_enter func39,ntmps39;go_wp2_with fail;go_loopw [4,5,7,14] (λt u _ i wr=>∃(k:Nat) (vt J:Value),k<=n/\i = .int .i64 k/\vt=t/\J=u/\wr.ownsRow w.heap.size 3 1 vt k (dw (gV T k))/\wr.ownsRow w.heap.size 53 1 J k (dD (fM B k))/\(∀g,vt.ownBlock=some g->J.ownBlock≠some g)/\Below w.heap.size w wr) (λ_ _ _ i _=>n-(intOf i).toNat);case atStart=>exact⟨0,_,_,zero_le _,rfl,rfl,rfl,⟨rfl,.inl ⟨rfl,rfl⟩⟩,⟨rfl,.inl ⟨rfl,rfl⟩⟩,λg U=>by simp[Value.ownBlock] at U,Below.refl _ _⟩
 case round=>
  obtain⟨k,vt,J,hk,rfl,rfl,rfl,Ź,ŏ,ϝ,hb⟩:=hrel;by_cases Ϩ:k<n
  ·obtain⟨lb,lo,rfl,ϡ⟩:=HP.out.at k Ϩ;obtain⟨ì,Ï,İ,hT1,hB⟩:=ϡ k Ϩ;have Û:lb<w.heap.size:=World.block_lt_of_cell? w ⟨lb,_,none⟩ ì;have Ϗ:=zm T k;have hsu:=zn B k;have acn:=(hb.cell (p:=⟨lb,_,none⟩) Û).trans ì;have Xg:=(hb.cell (p:=⟨lb,_,none⟩) Û).trans Ï;generalize T k=t at *;generalize B k=y at *;have Ϭ:(0:Int)<=k:=aZ;have ϓ:(k:Int)<n:=aZ;obtain⟨i0,hi,æ,Ü,û⟩:=info_parts Tryz.infoIntR;obtain⟨j0,I,Ł,ħ,hy2⟩:=info_parts Tryz.infoU64;have Ê:=hb.size;obtain⟨W1,Ĳ⟩:=ay (wr.alloc (.cells #[.int .i64 t,.int .u64 (y:Int)] 55));have Ä:W1.heap.size=wr.heap.size+1:=by rw[Ĳ];simp
   have ϖ:W1.heap[wr.heap.size]? = some (.cells #[.int .i64 t,.int .u64 (y:Int)] 55 (0,0)):=by rw[Ĳ];exact heap_alloc_new _ _
   have ah8:W1.ownsRow w.heap.size 3 1 vt k (dw (gV T k)):=by rw[Ĳ];exact Ź.alloc _
   have Cw:W1.ownsRow w.heap.size 53 1 J k (dD (fM B k)):=by rw[Ĳ];exact ŏ.alloc _
   have ah9:Below w.heap.size w W1:=by rw[Ĳ];exact hb.alloc Ê _
   have hvt:vt.ownBlock≠some wr.heap.size:=λh=>by have:=(gH Ź _ h).1;omega
   have hvu:J.ownBlock≠some wr.heap.size:=λh=>by have:=(gH ŏ _ h).1;omega
   have Rw:((wr.alloc (.cells #[.int .i64 t,.int .u64 (y:Int)] 55)).alloc (.cells #[.int .i64 t] 3)).ownsRow w.heap.size 3 1 vt k (dw (gV T k)):=(Ź.alloc _).alloc _;have JG:=Ϛ ah8;have Cv:Hid (W1.ownsRow w.heap.size 53 1 J k (dD (fM B k))):=Cw;have UO:=Ϛ ϝ;have HB:=Ϛ ah9;have HST:=Ϛ Ϗ;have HSU:=Ϛ hsu;have HW1:=Ϛ Ĳ;have HBK:=Ϛ ϖ;have HVT:=Ϛ (λh=>hvt h:vt.ownBlock=some wr.heap.size->False);go_wp2_with (at_builtin;refine wpList_append_lies _ rfl _ _ 60 rfl w.heap.size 3 i0 (.int .i64 0) 1 8 underlying60 hi æ Ü û rfl bS _ _ _ rfl Rw ⟨wr.heap.size+1,0,none⟩ 1 1 [.int .i64 t] rfl rfl ?c1 ?c2 aZ ?c3 ?c4 ?c5 (wr.heap.size+2) fE ?_);try (case c1=>intro j u I;match j,I with|0,I=>simp at I;subst I;simp[Addr.add])
   case c2=>first|rfl|(intro u hu;simp at hu;subst hu;rfl)
   case c3=>unfold maxLen;omega
   case c4=>omega
   case c5=>first|omega|(simp;omega)
   intro g1 ni w1 ϸ ϑ ϯ ü;rw[<-HW1.out] at ϑ;have ώ:=lZ HB.out JG.out ϑ;have Cw:=DI (Cv.out.alloc _) ϑ (λg U h=>UO.out g h U);have Ϙ:∀i,w1.cell? ⟨wr.heap.size,i,none⟩=(#[Value.int .i64 t,Value.int .u64 (y:Int)]:Array Value)[i]?:=by
    have M:w1.heap[wr.heap.size]? = some (.cells #[.int .i64 t,.int .u64 (y:Int)] 55 (0,0)):=by
     rw[ϑ.block wr.heap.size dH (λh=>HVT.out h.symm),Below.heap_alloc _ _ _ aZ];exact HBK.out
    exact aj M
   rw[lS,<-HST.out] at ϸ;have ë:J.ownBlock≠some g1:=by
    intro h;rcases ϯ with M|M
    ·exact UO.out g1 M h
    ·have:=(gH Cv.out g1 h).1;omega
   have Xg:=Ϙ 1;have Rx:(w1.alloc (.cells #[.int .u64 (y:Int)] 53)).ownsRow w.heap.size 53 1 J k (dD (fM B k)):=Cw.alloc _;have Ä:=ώ.size;have Xh:Hid (w1.ownsRow w.heap.size 3 1 (.slice (some ⟨g1,0,none⟩) (k+1) ni) (k+1) (dw (gV T (k+1)))):=ϸ;have Xi:=Ϛ Cw;have HB1:=Ϛ ώ;have MP:=Ϛ (λh=>ë h:J.ownBlock=some g1->False);have Xj:=Ϛ ü;go_wp2_with (at_builtin;refine wpList_append_lies _ rfl _ _ 63 rfl w.heap.size 53 j0 (.int .u64 0) 1 8 underlying63 I Ł ħ hy2 rfl bS _ _ _ rfl Rx ⟨w1.heap.size,0,none⟩ 1 1 [.int .u64 (y:Int)] rfl rfl ?d1 ?d2 aZ ?d3 ?d4 ?d5 (w1.heap.size+1) fE ?_);try (case d1=>intro j u I;match j,I with|0,I=>simp at I;subst I;simp[Addr.add])
   case d2=>first|rfl|(intro u hu;simp at hu;subst hu;rfl)
   case d3=>unfold maxLen;omega
   case d4=>omega
   case d5=>first|omega|(simp;omega)
   intro g2 cap2 w2 Ö ă Ry hlt2;have ϔ:=lZ HB1.out Xi.out ă;have Rz:=DI (Xh.out.alloc _) ă (λg U h=>by
    simp[Value.ownBlock] at U;subst U;exact MP.out h)
   rw[kQ,<-HSU.out] at Ö;have ć:∀g,(Value.slice (some ⟨g1,0,none⟩) (k+1) ni).ownBlock=some g->(Value.slice (some ⟨g2,0,none⟩) (k+1) cap2).ownBlock≠some g:=by
    intro g U h;simp[Value.ownBlock] at U h;subst U;rcases Ry with M|M
    ·rw[h] at M;exact MP.out M
    ·have:=Xj.out;omega
   have Xk:=Ϛ Rz;have Xl:=Ϛ Ö;have HB2:=Ϛ ϔ;have Xm:=Ϛ ć;go_wp2;go_roundw;case rel=>exact⟨k+1,_,_,aZ,fT,rfl,rfl,Xk.out,Xl.out,Xm.out,HB2.out⟩
   case measure=>simp[intOf]<;>omega
  ·have Ć:k=n:=aZ;subst Ć;have aia:=gH Ź;have aib:=gH ŏ;obtain⟨at_,ct,rfl,hI⟩:=MN Ź;obtain⟨au,cu,rfl,hU⟩:=MO ŏ (λi hi=>by
    obtain⟨_,_,_,ϡ⟩:=HP.out.at i hi;exact (ϡ i hi).2.2.2.2)
   have HI:Hid (Ints wr at_ k T):=hI;have HU:Hid (oU wr au k B):=hU;have HLT:=Ϛ aia;have HLU:=Ϛ aib;have HB:=Ϛ hb;have Ê:=hb.size;have hku:IntKind.u64.wrap (k:Int)=k:=IntWalk.u64_in _ aZ;have yK:=Ϛ (Zy wr);go_wp2_with fail;refine Calls.mono yK.out ?_;rintro e w1 ⟨rfl,ϩ,ώ,Ä⟩;obtain⟨r,hrr⟩:=ay wr.heap.size;rw[<-hrr] at ϩ Ä Ê ⊢;have yN:=Ϛ (jC w1 r (.slice none 0 0) [] ϩ k 8 aZ aZ fE);have HB1:=Ϛ ώ;have H:=Ϛ hrr;clear yK ϩ ώ hrr;go_wp2_with fail;refine Calls.mono yN.out ?_;rintro e w2 ⟨rfl,v2,ß,Ϯ,Ď⟩;rw[nil_append] at ß;have ade:Below r w1 w2:=Ϯ.below aZ (λx Z=>by simp[Value.ownBlock] at Z;omega);have Ž:=HB1.out.trans (ade.mono (by have:=H.out;omega));have hsz2:r+1<=w2.heap.size:=by have:=ade.size;omega
   have hBw2:=HB.out.trans (Ž.mono HB.out.size);have ύ:=lH T k;have hlm:=ah.kN B k;have alU:(ah.bitsOf k 8).length=8:=ah.aD _ _;have Ck:=(show Hid _ from U0 w2 (HF.out.below hBw2 rR) r aZ v2 (ah.bitsOf k 8) ß at_ k ct T (HI.out.below Ž) (λx Z=>by
    have:=(HLT.out x.block (by rw[Z];rfl)).1;have:=H.out;omega) aZ jk.out aZ)
   have HR2:=Ϛ ß;have HB2:=Ϛ Ž;go_wp2_with fail;refine Calls.mono Ck.out ?_;rintro e w3 ⟨rfl,v3,Ε,ö,hg3⟩;have adf:=ö.below aZ (λx Z=>HR2.out.zq x Z);have hB3:=HB2.out.trans (adf.mono (by have:=H.out;omega));have alV:r+1<=w3.heap.size:=by have:=adf.size;omega
   have hBw3:=HB.out.trans (hB3.mono HB.out.size);have HMP:=(show Hid _ from XJ w3 (HT.out.below hBw3 yg) au k cu B (HU.out.below hB3) aZ r v3 (ah.bitsOf k 8++bf T k) Ε (λx Z hm=>by
    have M:=(HLU.out x.block (by rw[Z];rfl)).1;have h2:=Ε.zq _ hm;have:=H.out;omega) aZ (by rw[length_append];omega))
   have HR3:=Ϛ Ε;have HB3:=Ϛ hB3;go_wp2_with fail;refine Calls.mono HMP.out ?_;rintro e w4 ⟨rfl,v4,ź,ġ,hg4⟩;have aic:=ġ.below aZ (λx Z=>HR3.out.zq x Z);have hB4:=HB3.out.trans (aic.mono (by have:=H.out;omega));have aie:=HB.out.trans (hB4.mono HB.out.size);have Y4:Hid (Calls prog 65 #[.pointer (some ⟨r,0,none⟩)] w4 λe w'=>e = .returned (.string ⟨(ah.pack (bN T B k)).toArray⟩)/\w'=w4):=Tg w4 r v4 _ ź;have qA:=Ϛ aie;obtain⟨z,hz⟩:=ay (⟨(ah.pack (bN T B k)).toArray⟩:ByteArray);rw[<-hz] at Y4;have HZ:=Ϛ hz;go_wp2_with fail;refine Calls.mono Y4.out ?_;rintro e w5 ⟨rfl,GJ⟩;have Xc:=GJ.symm;subst Xc;go_wp2;go_ret2;exact⟨by rw[<-HZ.out];rfl,qA.out⟩
theorem Sk(w:World)(p:Addr):
  Calls prog 53 #[.pointer (some p),.int .i64 0] w λe w'=>e = .returned (.tuple #[.slice none 0 0,.nilIface])/\w'=w:=by
 go_enter func53,ntmps53;go_wp2;go_ret2;exact⟨rfl,rfl⟩
structure MRd(w wr:World)(x:Nat)(D:List Bool)(vs:List Nat)(u g cap:Nat)(eN eT:Value):Prop where
 read:ah.bq D vs.length=(0,vs,u)
 own:wr.ownsRow w.heap.size 53 1 (.slice (some ⟨g,0,none⟩) vs.length cap) vs.length (dD vs)
 gq:g≠w.heap.size+1
 vals:∀y,y∈vs->y<18446744073709551616
 rd:fQ wr x (D.drop u)
 win:wr.heap[w.heap.size+1]? = some (.cells #[.int .i64 ((ah.aQ (ah.vf vs) vs.length).2.1:Int),.int .i64 ((ah.aY (ah.aQ (ah.vf vs) vs.length):Nat):Int)] 153 (0,0))
 kept:Kept [x] w wr
 tab:Tab wr
 noE:wr.cell? ⟨5,0,none⟩=some eN
 txE:wr.cell? ⟨0,0,none⟩=some eT
def adh(w w':World)(x:Nat)(D:List Bool)(n:Nat)(aN aT:Addr)(e:Ending):Prop:=
 Kept [x] w w'/\((∃(vs:List Nat) (u:Nat) (v:Value),ah.bq D n=(0,vs,u)/\e = .returned (.tuple #[v,.nilIface])/\vs.length=n/\w'.ownsRow w.heap.size 53 1 v n (dD vs)/\(∀y,y∈vs->y<18446744073709551616)/\fQ w' x (D.drop u)) \/
  (ah.bq D n=(5,[],0)/\e = .returned (.tuple #[.slice none 0 0,.iface 235 (.pointer (some aN))])) \/
  (ah.bq D n=(1,[],0)/\e = .returned (.tuple #[.slice none 0 0,.iface 235 (.pointer (some aT))])))
theorem Zb(vs:List Nat)(h:∀y,y∈vs->y<18446744073709551616)(i:Nat)(e:i<vs.length):ah.vf vs i<18446744073709551616:=by
 have:ah.vf vs i=vs[i]:=by simp[ah.vf,List.getElem?_eq_getElem e]
 rw[this];exact h _ (getElem_mem _)
theorem Vk(w:World)(x:Nat)(D:List Bool)(h:fQ w x D)(IL:Tab w)(n:Nat)(ŭ:1<=n)(hn:n<=120)(aN aT:Addr)(hN:w.cell? ⟨5,0,none⟩=some (.iface 235 (.pointer (some aN))))(hT:w.cell? ⟨0,0,none⟩=some (.iface 235 (.pointer (some aT))))(Bp:5<x)(EB:0<x)(Y7:13<x):
  Calls prog 53 #[.pointer (some ⟨x,0,none⟩),.int .i64 (n:Int)] w λe w'=>adh w w' x D n aN aT e:=by
 have Ç:=h.lt;have hd0:decide ((n:Int)<0)=false:=fE;have hd1:decide (120<(n:Int))=false:=dH;have Ρ:((n:Int)==0)=false:=gD;by_cases Ÿ:64<=D.length
 ·have Ë:=Aj w x D h 64 aZ Ÿ;have Ŀ:=ah.rV D Ÿ;have ñ:ah.aH (D.take 64)<18446744073709551616:=by
   have:=ah.gJ (D.take 64);rwa [length_take,Nat.min_eq_left Ÿ] at this
  generalize ah.aH (D.take 64)=v0 at *;have jl:=Ϛ Ë;have HN:=Ϛ hN;have HT:=Ϛ hT;have zx:=Ϛ IL;have Cr:=Ϛ Ŀ;go_enter func53,ntmps53;go_wp2_with fail;refine Calls.mono jl.out ?_;rintro e w1 ⟨rfl,ϩ,ϓ,Ä⟩;have HR1:=Ϛ ϩ;have M:=Ϛ ϓ;go_wp2_with fail;obtain⟨wa,bQ⟩:=ay ((w1.alloc (.cells #[.int .u64 (v0:Int)] 53)).alloc (.cells #[.int .i64 0,.int .i64 0] 153));have ϴ:Kept [] w1 wa:=by rw[bQ];exact ((Kept.refl _ _).alloc _).alloc _
  have Į:wa.heap.size=w.heap.size+2:=by rw[bQ];simp;omega
  have ŝ:MRd w wa x D [v0] 64 w.heap.size 1 (.iface 235 (.pointer (some aN))) (.iface 235 (.pointer (some aT))):=by
   refine⟨Cr.out,⟨rfl,.inr ⟨w.heap.size,1,#[.int .u64 (v0:Int)],rfl,le_refl _,?_,le_refl _,by unfold maxLen;omega,rfl,rfl⟩⟩,aZ,?_,HR1.out.je ϴ (λb U=>by cases U),?_,M.out.trans ϴ (λz I=>by cases I),λj hj=>ϴ.cell (M.out.cell (zx.out j hj) dH) fE,ϴ.cell (M.out.cell HN.out dH) fE,ϴ.cell (M.out.cell HT.out dH) fE⟩
   ·rw[bQ,Below.heap_alloc _ _ _ dH,<-Ä];exact heap_alloc_new _ _
   ·intro y hy;simp at hy;rw[hy];exact ñ
   ·rw[bQ];have:=heap_alloc_new (w1.alloc (.cells #[.int .u64 (v0:Int)] 53)) (.cells #[.int .i64 0,.int .i64 0] 153);rw[World.size_alloc,Ä] at this;rw[this];show some _=some (Obj.cells #[.int .i64 ((ah.aQ (ah.vf [v0]) 1).2.1:Int),.int .i64 ((ah.aY (ah.aQ (ah.vf [v0]) 1):Nat):Int)] 153 (0,0));rw[ah.jX];rfl
  rw[<-bQ];have HM0:=Ϛ ŝ;go_loopw [6,8,10,11,12] (λval sl _ _ _ wr=>∃(vs:List Nat) (u g cap:Nat),1<=vs.length/\vs.length<=n/\val = .int .u64 ((ah.vf vs (vs.length-1):Nat):Int)/\sl = .slice (some ⟨g,0,none⟩) vs.length cap/\MRd w wr x D vs u g cap (.iface 235 (.pointer (some aN))) (.iface 235 (.pointer (some aT)))) (λ_ sl _ _ _ _=>n-(match sl with | .slice _ k _=>k|_=>0));case atStart=>exact⟨[v0],64,w.heap.size,1,le_refl _,ŭ,rfl,rfl,HM0.out⟩
  case round=>
   obtain⟨vs,u,g,cap,ģ,hln,rfl,rfl,Z⟩:=hrel;by_cases ύ:vs.length<n
   ·have hvf:=Zb vs Z.vals;have Θ:=qh (ah.vf vs) vs.length hvf vs.length (le_refl _);have hgc:=Kq (ah.aQ (ah.vf vs) vs.length) Θ wr x (D.drop u) Z.rd Z.tab aN aT Z.noE Z.txE Bp EB Y7;have á:=Z.win;have ϛ:∀c,c≠0->(∀p,ah.bA (ah.aQ (ah.vf vs) vs.length) p (D.drop u)=(c,0,0))->ah.bq D n=(c,[],0):=λc hc hs=>
     ah.nM D (vs.length+1) c hc (ah.BD D vs.length u vs _ _ c aZ Z.read rfl rfl (hs _) hc) n aZ
    have ï:∀X b,(∀p,ah.bA (ah.aQ (ah.vf vs) vs.length) p (D.drop u)=(0,p ^^^ X,b))->ah.bq D (vs.length+1)=(0,vs ++ [ah.vf vs (vs.length-1) ^^^ X],u+b):=λX b hs=>
     ah.uD D vs.length u vs _ _ _ b aZ Z.read rfl rfl (hs _)
    have hnext:∀X,ah.aQ (ah.vf (vs ++ [ah.vf vs (vs.length-1) ^^^ X])) (vs.length+1)=ah.bV (ah.aQ (ah.vf vs) vs.length) X:=λX=>(ah.yD vs X aZ).2
    have HBAD:=Ϛ ϛ;have xX:=Ϛ ï;have afb:=Ϛ hnext;obtain⟨k,hk⟩:=aK vs.length;obtain⟨p,hp⟩:=aK (ah.vf vs (vs.length-1));have σ:p<18446744073709551616:=by rw[<-hp];exact hvf _ aZ
    obtain⟨L,hL⟩:=aK ((ah.aQ (ah.vf vs) vs.length).2.1);obtain⟨Wd,hWd⟩:=aK (ah.aY (ah.aQ (ah.vf vs) vs.length));rw[hL,hWd] at hgc á;rw[hp];have q0:=aj á 0;have q1:=aj á 1;unfold jd at hgc;have HGC:=Ϛ hgc;have H:=Ϛ Z;have sI:=Ϛ á;have HP:=Ϛ hp;have YU:(k:Int)<n:=aZ;rw[hk];have HK:=Ϛ hk;go_wp2_with fail;refine Calls.mono HGC.out ?_;rintro e w1 ⟨ϓ,Ø⟩;have ϊ:=(ϓ.block _ (lt_of_block sI.out) dH).trans sI.out;have alX:=lt_of_block ϊ;rcases Ø with⟨X,b,oQ,Ϗ,rfl,ϩ⟩|⟨Ϗ,rfl⟩|⟨Ϗ,rfl⟩
    ·have Ħ:=xX.out X b Ϗ;have Ã:=afb.out X;rw[HP.out] at Ħ Ã;have zW:=u64_xor_nat p X σ oQ;have hzl:=ah.qE p X σ oQ;obtain⟨z,I⟩:=aK (p ^^^ X);rw[I] at Ħ Ã zW hzl;rw[<-Ã];obtain⟨U2,UM⟩:=aK (ah.aQ (ah.vf (vs ++ [z])) (vs.length+1));rw[UM];obtain⟨y,hy⟩:=aK (ah.dZ (ah.aQ (ah.vf vs) vs.length) X);obtain⟨L2,υ⟩:=aK U2.2.1;obtain⟨W2,hW2⟩:=aK (ah.aY U2);rw[hy,υ,hW2];unfold dG;have z0:=aj ϊ 0;have z1:=aj ϊ 1;have y0:=aA ϊ 0;have y1:=aA ϊ 1;have HST:=Ϛ Ϗ;have rP:=Ϛ Ħ;have HR1:=Ϛ ϩ;have M:=Ϛ ϓ;have dA:=Ϛ ϊ;have HU2:=Ϛ UM;have HL2:=Ϛ υ;have HW2:=Ϛ hW2;obtain⟨w2,ϭ⟩:=ay ((w1.setCell ⟨w.heap.size+1,0,none⟩ (.int .i64 (L2:Int))).setCell ⟨w.heap.size+1,1,none⟩ (.int .i64 (W2:Int)));have Ϯ:Kept [w.heap.size+1] w1 w2:=by rw[ϭ];exact ((Kept.refl _ _).setCell (.inl fE) _).setCell (.inl fE) _
     have Ą:w2.heap.size=w1.heap.size:=by rw[ϭ];simp
     have Œ:g≠x:=by
      have:=H.out.own.2;rcases this with⟨h,_⟩|⟨g',cap',cur,h,hg',_⟩
      ·cases h
      ·cases h;omega
     have Ö:w2.ownsRow w.heap.size 53 1 (.slice (some ⟨g,0,none⟩) vs.length cap) vs.length (dD vs):=
      qY (qY H.out.own M.out (λb U=>by simp[Value.ownBlock] at U;subst U;simpa using Œ)) Ϯ (λb U=>by simp[Value.ownBlock] at U;subst U;simpa using H.out.gq)
     have afd:w2.heap[w.heap.size+1]? = some (.cells #[.int .i64 (L2:Int),.int .i64 (W2:Int)] 153 (0,0)):=by
      rw[ϭ,heap_set (heap_set dA.out 0 _) 1 _];rfl
     obtain⟨w3,î⟩:=ay ((w2.alloc (.cells #[.int .i64 (y:Int),.int .i64 (L2:Int),.int .i64 (W2:Int)] 156)).alloc (.cells #[.int .u64 (z:Int)] 53));have ö:Kept [] w2 w3:=by rw[î];exact ((Kept.refl _ _).alloc _).alloc _
     have ş:w3.heap.size=w1.heap.size+2:=by rw[î];simp;omega
     have Ř:=qY Ö ö (λb U=>fE);have hm3:∀J:World,Kept [] w3 J\/Kept [g] w3 J->Kept [x] w J/\fQ J x ((D.drop u).drop b)/\J.heap[w.heap.size+1]? = some (.cells #[.int .i64 (L2:Int),.int .i64 (W2:Int)] 153 (0,0))/\Tab J/\J.cell? ⟨5,0,none⟩=some (.iface 235 (.pointer (some aN)))/\J.cell? ⟨0,0,none⟩=some (.iface 235 (.pointer (some aT))):=by
      intro J h4;have Ú:w.heap.size<=g:=by
       have:=H.out.own.2;rcases this with⟨h,_⟩|⟨g',cap',cur,h,hg',_⟩
       ·cases h
       ·cases h;exact hg'
      have h4':Kept [g] w3 J:=by
       rcases h4 with h4|h4
       ·exact h4.none
       ·exact h4
      have h23:Kept [w.heap.size+1,g] w1 J:=by
       have a1:Kept [w.heap.size+1,g] w1 w2:=Ϯ.trans (T:=[]) (Kept.refl _ _) (λz I=>by cases I) |> λh=>⟨h.os,h.tape,h.output,h.size,λb U Z=>h.block b U (λhh=>Z (by simp at hh;subst hh;simp))⟩
       exact (a1.trans ö (λz I=>by cases I)).trans h4' (λz I=>.inl (by simp at I;subst I;simp))
      have Nj:=HR1.out.je h23 (λb U=>by simp at U;omega);refine⟨(H.out.kept.trans M.out (λz I=>.inl I)).trans h23 (λz I=>.inr (by simp at I;omega)),Nj,?_,λj hj=>h23.cell (M.out.cell (H.out.tab j hj) dH) dH,h23.cell (M.out.cell H.out.noE dH) dH,h23.cell (M.out.cell H.out.txE (by intro ų;simp only[mem_cons,not_mem_nil,or_false] at ų;omega)) (by intro ų;simp only[mem_cons,not_mem_nil,or_false] at ų;omega)⟩;rw[h4'.block _ aZ (by simpa using λh=>H.out.gq h.symm),ö.block _ aZ fE];exact afd
     obtain⟨i0,hi,æ,Ü,û⟩:=info_parts Tryz.infoU64;rw[î,ϭ,HK.out] at Ř;have HM3:=Ϛ hm3;have HW3:Hid (w3=((((w1.setCell ⟨w.heap.size+1,0,none⟩ (.int .i64 (L2:Int))).setCell ⟨w.heap.size+1,1,none⟩ (.int .i64 (W2:Int))).alloc (.cells #[.int .i64 (y:Int),.int .i64 (L2:Int),.int .i64 (W2:Int)] 156)).alloc (.cells #[.int .u64 (z:Int)] 53))):=by rw[<-ϭ];exact î
     have ϻ:w3.cell? ⟨w1.heap.size+1,0,none⟩=some (.int .u64 (z:Int)):=by
      have h5:=heap_alloc_new (w2.alloc (.cells #[.int .i64 (y:Int),.int .i64 (L2:Int),.int .i64 (W2:Int)] 156)) (.cells #[.int .u64 (z:Int)] 53);rw[World.size_alloc,Ą,<-î] at h5;exact aj h5 0
     rw[î,ϭ] at ϻ;have Bq:=Ϛ ϻ;have ak0:k<=120:=by have:=HK.out;omega
     go_wp2_with (at_builtin;refine wpList_append_lies _ rfl _ _ 63 rfl w.heap.size 53 i0 (.int .u64 0) 1 8 underlying63 hi æ Ü û rfl bS _ _ _ rfl Ř ⟨w1.heap.size+1,0,none⟩ 1 1 [.int .u64 (z:Int)] rfl rfl ?c1 ?c2 aZ ?c3 ?c4 ?c5 (w1.heap.size+2) fE ?_);case c1=>
      intro j u hj;match j,hj with
      | 0,hj=>
       simp at hj;subst hj;rw[addr_add];exact Bq.out
     try (case c2=>first|rfl|(intro u hu;simp at hu;subst hu;rfl))
     case c3=>unfold maxLen;omega
     case c4=>omega
     case c5=>first|omega|(simp;omega)
     intro g1 ni J jL ϑ ϯ IC;have ġ:Kept [g] w3 J:=by rw[HW3.out];exact Kept.grown ϑ (λj hj=>by simp[Value.ownBlock] at hj;subst hj;simp)
     obtain⟨f1,f2,f3,f4,f5,f6⟩:=HM3.out J (.inr ġ);have ϕ:(vs ++ [z]).length=k+1:=by rw[length_append,HK.out];rfl
     rw[kQ] at jL;have hm4:MRd w J x D (vs ++ [z]) (u+b) g1 ni (.iface 235 (.pointer (some aN))) (.iface 235 (.pointer (some aT))):=by
      refine⟨?_,?_,?_,?_,?_,?_,f1,f4,f5,f6⟩
      ·rw[ϕ,<-HK.out];exact rP.out
      ·rw[ϕ];exact jL
      ·rcases ϯ with h|h
       ·simp[Value.ownBlock] at h;subst h;exact H.out.gq
       ·omega
      ·intro y hy;rcases mem_append.1 hy with hy|hy
       ·exact H.out.vals y hy
       ·simp at hy;rw[hy];exact hzl
      ·rw[drop_drop] at f2;exact f2
      ·rw[ϕ,<-HK.out,HU2.out,HL2.out,HW2.out];exact f3
     have hvz:ah.vf (vs ++ [z]) (k+1-1)=z:=by
      rw[show k+1-1=vs.length by rw[HK.out];omega];exact ah.OE vs z
     have HM4:=Ϛ hm4;have PX:=Ϛ ϕ;have HVZ:=Ϛ hvz;go_wp2_with fail;go_roundw;case rel=>exact⟨vs ++ [z],u+b,g1,ni,by rw[PX.out];omega,by rw[PX.out];omega,by rw[PX.out,HVZ.out],by rw[PX.out],HM4.out⟩
     case measure=>simp;omega
    ·have HST:=Ϛ (HBAD.out 5 bS Ϗ);have JN:=Ϛ (H.out.kept.trans ϓ (λz I=>.inl I));unfold dG;go_wp2;go_ret2;exact⟨JN.out.alloc _,.inr (.inl ⟨HST.out,rfl⟩)⟩
    ·have HST:=Ϛ (HBAD.out 1 bS Ϗ);have JN:=Ϛ (H.out.kept.trans ϓ (λz I=>.inl I));unfold dG;go_wp2;go_ret2;exact⟨JN.out.alloc _,.inr (.inr ⟨HST.out,rfl⟩)⟩
   ·have hk:vs.length=n:=aZ;have H:=Ϛ Z;rw[hk];have HK:=Ϛ hk;go_wp2;go_ret2;refine⟨H.out.kept,.inl ⟨vs,u,_,by rw[<-HK.out];exact H.out.read,rfl,HK.out,by have:=H.out.own;rw[HK.out] at this;exact this,H.out.vals,H.out.rd⟩⟩
 ·have Ë:=vI w x D h 64 aN hN aZ aZ;have Ŀ:=ah.nM D 1 5 bS (ah.tH D aZ) n ŭ;have jl:=Ϛ Ë;have Cr:=Ϛ Ŀ;clear Ë hN hT IL Ŀ h;go_enter func53,ntmps53;go_wp2_with fail;refine Calls.mono jl.out ?_;rintro e w1 ⟨rfl,q,Ϻ⟩;have M:Hid (Kept [x] w w1):=by rw[Ϻ];exact (Kept.refl _ _).draws q
  clear Ϻ jl;go_wp2;go_ret2;exact⟨M.out,.inr (.inl ⟨Cr.out,rfl⟩)⟩
