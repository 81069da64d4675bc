import Derived.Test.YtdlceolmpcjjiaaGreatDoorMaskRange
import Derived.Test.YtdlceolmpcjjiaaGreatDoorMaskWinGroup
import Derived.Test.YtdlceolmpcjjiaaGreatDoorSlicesIn
import Derived.Test.YtdlceolmpcjjiaaGreatDoorPutGroup
import Derived.OwnWalkIn
import Derived.TacticsInMore
import Derived.LoopNIn
import Derived.LoopIn
set_option maxRecDepth 100000
set_option maxHeartbeats 2000000
namespace Go.Proofs.YtdlceolmpcjjiaaGreatDoor
open Go.RowKit Go.Shelf
attribute [local go_sem] Oper.semAt_some
theorem Cb (la:Option Addr) (m c:Nat) (w:World) :
  Calls Tryz.prog 166 #[.slice la m c] w fun e w'=>e = .returned (.func (.func 201) #[] #[.pointer (some ⟨w.heap.size,0,none⟩)])/\w'=w.alloc (.cells #[.slice la m c] 140):=by
 go_enter Tryz.func166,Tryz.ntmps166;go_wp2;go_ret;exact⟨rfl,rfl⟩
def l8 (V:Nat->Nat) (k:Nat):Nat:=V k ^^^ V (k-1)
def ni (V:Nat->Nat) (k:Nat):Value:=dA (aj.dR (aj.aK V k) (l8 V k)) (aj.aK V (k+1)).2.1 (aj.aW (aj.aK V (k+1)))
def rY (V:Nat->Nat) (k:Nat):Array Value:=#[ni V k,.int .u64 (l8 V k:Int)]
structure CU (wr:World) (Bn lb lo m c:Nat) (V:Nat->Nat) (q k:Nat):Prop where
 box:wr.cell? ⟨Bn,0,none⟩=some (.slice (some ⟨lb,lo,none⟩) m c)
 vals:∀ i,i<m->wr.cell? ⟨lb,lo+i,none⟩=some (.int .u64 (V i:Int))
 tab:Tab wr
 win:wr.heap[q]? = some (.cells #[.int .i64 ((aj.aK V k).2.1:Int),.int .i64 ((aj.aW (aj.aK V k):Nat):Int)] 237 (0,0))
theorem CU.kept {wr wr':World} {Bn lb lo m c:Nat} {V:Nat->Nat} {q k:Nat} (h:CU wr Bn lb lo m c V q k) {S:List Nat} (hk:Kept S wr wr') (h1:Bn∉S) (h2:lb∉S) (h3:17∉S) (h4:q∉S):CU wr' Bn lb lo m c V q k:=
 ⟨hk.cell h.box h1,fun i hi=>hk.cell (h.vals i hi) h2,fun j hj=>hk.cell (h.tab j hj) h3,(hk.block q (lt_of_block h.win) h4).trans h.win⟩
theorem pV (V:Nat->Nat) (n:Nat) (hV:∀ i,i<n->V i<18446744073709551616):∀ k,k<=n->aj.pF (aj.aK V k)
 | 0,_=>by simp[aj.aK,aj.pF]
 | k+1,h=>by
  by_cases hk:k=0
  ·subst hk;rw[aj.kF];simp[aj.pF]
  ·rw[aj.jZ V k hk];exact aj.NN (pV V n hV k (by omega)) _ (aj.qx _ _ (hV k (by omega)) (hV (k-1) (by omega)))
theorem wO (Bn lb lo m c:Nat) (V:Nat->Nat) (w:World) (hm1:1<=m) (hm:m<=1000) (hV:∀ i,i<m->V i<18446744073709551616)
  (Cw:w.cell? ⟨Bn,0,none⟩=some (.slice (some ⟨lb,lo,none⟩) m c)) (pG:∀ i,i<m->w.cell? ⟨lb,lo+i,none⟩=some (.int .u64 (V i:Int))) (hT:Tab w) :
  Rounds Tryz.prog 201 #[.pointer (some ⟨Bn,0,none⟩)] (rY V) m [Bn,lb,17] w:=by
 intro l J S0 W hbW SL XY Po hJ0 hS0;have WS:=lt_of_cell Cw;have hlb:=lt_of_cell (pG 0 hm1);have Mc:=hbW.size;have Ng:W.cell? ⟨Bn,0,none⟩=some (.slice (some ⟨lb,lo,none⟩) m c):=(hbW.cell (p:=⟨Bn,0,none⟩) WS).trans Cw;have Qg:∀ i,i<m->W.cell? ⟨lb,lo+i,none⟩=some (.int .u64 (V i:Int)):=fun i hi=>(hbW.cell (p:=⟨lb,lo+i,none⟩) hlb).trans (pG i hi)
 have hTW:Tab W:=hT.below hbW hT.lt;have hG:=hT.lt;obtain⟨wa,bF⟩:∃ wa,wa=W.alloc (.cells #[.int .i64 0,.int .i64 0] 237):=⟨_,rfl⟩;have hka:Kept [W.heap.size] W wa:=by rw[bF];exact (Kept.refl _ _).alloc _
 have hsa:wa.heap.size=W.heap.size+1:=by rw[bF];simp
 have XZ:W.heap.size∉S0:=fun h=>by have:=SL 1 S0 W hJ0 _ h;omega
 have hIt:CU wa Bn lb lo m c V W.heap.size 1:=by
  refine⟨hka.cell Ng (by simp;omega),fun i hi=>hka.cell (Qg i hi) (by simp;omega),fun j hj=>hka.cell (hTW j hj) (by simp;omega),?_⟩;rw[bF,aj.kF];exact heap_alloc_new _ _
 have HIT:=(show Hid _ from hIt);have HJA:=(show Hid _ from XY 1 S0 W wa hJ0 hka XZ);have acv:=(show Hid _ from SL);have HJk:=(show Hid _ from XY);have WT:=(show Hid _ from Po);have kG:Hid (∀ wx,wx=W.alloc (.cells #[.int .i64 0,.int .i64 0] 237)->wx=wa):=fun wx h=>h.trans bF.symm
 have Qh:Hid (∀ b,b∈S0->b ∉ [Bn,lb,17]/\b≠W.heap.size):=fun b hb=>⟨hS0 b hb,fun e=>XZ (e ▸ hb)⟩
 have HV:=(show Hid _ from hV);clear hJ0 SL XY Po bF hka hIt Qg pG hT hTW hS0 hV Cw Ng;refine callsIn_of_wp Tryz.func201 rfl trivial ?_ rfl;simp only[Tryz.ntmps201,List.size_toArray,List.length_cons,List.length_nil,Nat.reduceAdd,Nat.reduceSub,Array.replicate_succ,Array.replicate_zero,List.push_toArray,List.append_toArray,List.nil_append,List.cons_append];gi_wp2;rw[kG.out _ rfl];gi_loopw [4,5,6] (fun i _ _ wr=>∃ (k:Nat) (S:List Nat),1<=k/\k<=m/\i = .int .i64 k/\J k S wr/\(∀ b,b∈S->b ∉ [Bn,lb,17]/\b≠W.heap.size)/\CU wr Bn lb lo m c V W.heap.size k) (fun i _ _ _=>m-(intOf i).toNat);case atStart=>exact⟨1,S0,Nat.le_refl _,hm1,rfl,HJA.out,Qh.out,HIT.out⟩
 case round=>
  obtain⟨k,S,hk1,hkm,rfl,hJ,X0,hit⟩:=hrel;clear HIT HJA;have hb0:=hit.box;by_cases hlt:k<m
  ·obtain⟨j,rfl⟩:∃ j,k=j+1:=⟨k-1,by omega⟩;have hc1:wr.cell? ⟨lb,lo+(j+1),none⟩=some (.int .u64 (V (j+1):Int)):=hit.vals (j+1) hlt;have hc0:wr.cell? ⟨lb,lo+j,none⟩=some (.int .u64 (V j:Int)):=hit.vals j (by omega);have hv1:=HV.out (j+1) hlt;have hv0:=HV.out j (by omega);have yL:=u64_xor_nat (V (j+1)) (V j) hv1 hv0;have hxl:=aj.qx (V (j+1)) (V j) hv1 hv0;have hxe:l8 V (j+1)=V (j+1) ^^^ V j:=rfl;have hwo:=pV V m HV.out (j+1) (by omega);have hst:=aj.jZ V (j+1) (by omega);obtain⟨x,hx⟩:∃ x,x=V (j+1) ^^^ V j:=⟨_,rfl⟩;have hst':aj.aK V (j+1+1)=aj.bO (aj.aK V (j+1)) x:=by rw[hst,hx];rfl
   rw[<-hx] at yL hxl hxe;have hfo:=fun w0 hT0=>BX (aj.aK V (j+1)) x w0 hwo hxl hT0
   rw[<-hst'] at hfo;obtain⟨L,hL⟩:∃ L,L=(aj.aK V (j+1)).2.1:=⟨_,rfl⟩;obtain⟨Wd,hWd⟩:∃ Wd,Wd=aj.aW (aj.aK V (j+1)):=⟨_,rfl⟩;have hwin:=hit.win;rw[<-hL,<-hWd] at hfo hwin;unfold jl dA at hfo;have q0:wr.cell? ⟨W.heap.size,0,none⟩=some (.int .i64 (L:Int)):=ak hwin 0;have q1:wr.cell? ⟨W.heap.size,1,none⟩=some (.int .i64 (Wd:Int)):=ak hwin 1;have hargs:rY V (j+1)=#[.agg #[.int .i64 ((aj.dR (aj.aK V (j+1)) x:Nat):Int),.int .i64 ((aj.aK V (j+1+1)).2.1:Int),.int .i64 ((aj.aW (aj.aK V (j+1+1)):Nat):Int)],.int .u64 (x:Int)]:=by
    unfold rY ni dA;rw[hxe]
   obtain⟨y,hy0⟩:∃ y,y=aj.dR (aj.aK V (j+1)) x:=⟨_,rfl⟩;obtain⟨L2,hL2⟩:∃ L2,L2=(aj.aK V (j+1+1)).2.1:=⟨_,rfl⟩;obtain⟨W2,hW2⟩:∃ W2,W2=aj.aW (aj.aK V (j+1+1)):=⟨_,rfl⟩;rw[<-hy0,<-hL2,<-hW2] at hfo hargs;have HL2:=(show Hid _ from hL2);have HW2:=(show Hid _ from hW2);generalize hV1:V (j+1)=V1 at *;generalize hV0:V j=V0 at *;have bJ:=(show Hid _ from hfo);have HIT:=(show Hid _ from hit);have HJ:=(show Hid _ from hJ);have Qi:=(show Hid _ from X0);have X3:=(show Hid _ from hargs);have pR:=(show Hid _ from hwin);have hjI:(j:Int)+1<(m:Int):=by omega
   clear hfo hit hJ X0 hxe hwin hst hst' hwo hv1 hv0 hx hL hWd hV1 hV0 hxl hy0 hL2 hW2 hargs;gi_wp2;refine wpIn_wide.2 ?_;go_quiet (fail);gi_wp2_with fail;refine⟨trivial,rfl,?_⟩;refine CallsIn.mono (callsIn_wide.2 (bJ.out _ (fun i hi=>HIT.out.tab i hi))) ?_;rintro e w1 ⟨rfl,hb1⟩;have hs1:wr.heap.size<=w1.heap.size:=hb1.size;have X4:Kept [W.heap.size] wr w1:=⟨hb1.os,hb1.tape,hb1.output,hb1.size,fun b hb _=>hb1.block b hb⟩;obtain⟨A,hA⟩:∃ A,A=w1.alloc (.cells #[.int .i64 (y:Int),.int .i64 (L2:Int),.int .i64 (W2:Int)] 239):=⟨_,rfl⟩;have hkA:Kept [W.heap.size] wr A:=by rw[hA];exact X4.alloc _
   have X5:Kept [] wr A:=by rw[hA];exact (Kept.of_below (S:=[]) (⟨hb1.os,hb1.tape,hb1.output,hb1.size,hb1.block⟩:Below wr.heap.size wr w1)).alloc _
   have UO:W.heap.size∉S:=fun h=>(Qi.out _ h).2 rfl
   have I7:=HJk.out _ S wr A HJ.out hkA UO;have hpA:A.heap[w1.heap.size]? = some (.cells #[.int .i64 (y:Int),.int .i64 (L2:Int),.int .i64 (W2:Int)] 239 (0,0)):=by rw[hA];exact heap_alloc_new _ _
   have hsA:A.heap.size=w1.heap.size+1:=by rw[hA];simp
   have X6:w1.heap.size∉S:=fun h=>by have:=acv.out _ S wr HJ.out _ h;omega
   obtain⟨fn,tmps,assign,body,hy,hR⟩:=WT.out (j+1) S A hk1 hlt I7;rw[X3.out] at hy;rw[hA] at hy;have SN:=(show Hid _ from HIT.out.kept X5 (by simp) (by simp) (by simp) (by simp));have HR:=(show Hid _ from hR);have DF:=(show Hid _ from hpA);have Qj:=(show Hid _ from hA);clear hR hb1 X4 hkA X5 hpA hA I7 q0 q1 hc0 hc1 hb0;gi_wp2;refine⟨rfl,?_⟩;rw[<-Qj.out];refine RoundIn.mono HR.out ?_;rintro e W3 ⟨rfl,S',hJ3,hk3,X7⟩;have hqA:W.heap.size<wr.heap.size:=lt_of_block pR.out;have afl:=hk3.size;have hp3:W3.heap[w1.heap.size]? = some (.cells #[.int .i64 (y:Int),.int .i64 (L2:Int),.int .i64 (W2:Int)] 239 (0,0)):=(hk3.block _ (by omega) X6).trans DF.out;have hit3:CU W3 Bn lb lo m c V W.heap.size (j+1):=SN.out.kept hk3 (fun h=>(Qi.out _ h).1 (by simp)) (fun h=>(Qi.out _ h).1 (by simp)) (fun h=>(Qi.out _ h).1 (by simp)) UO;have Bq:W3.heap[W.heap.size]? = some (.cells #[.int .i64 (L:Int),.int .i64 (Wd:Int)] 237 (0,0)):=by
    have h1:=SN.out.win;have h2:A.heap[W.heap.size]? = some (.cells #[.int .i64 (L:Int),.int .i64 (Wd:Int)] 237 (0,0)):=by
     rw[h1,<-HIT.out.win];exact pR.out
    exact (hk3.block _ (by omega) UO).trans h2
   have p1:W3.cell? ⟨w1.heap.size,1,none⟩=some (.int .i64 (L2:Int)):=ak hp3 1;have p2:W3.cell? ⟨w1.heap.size,2,none⟩=some (.int .i64 (W2:Int)):=ak hp3 2;have z0:W3.cell? ⟨W.heap.size,0,none⟩=some (.int .i64 (L:Int)):=ak Bq 0;have z1:W3.cell? ⟨W.heap.size,1,none⟩=some (.int .i64 (Wd:Int)):=ak Bq 1;have y0:W3.frozen? ⟨W.heap.size,0,none⟩=false:=aA Bq 0;have y1:W3.frozen? ⟨W.heap.size,1,none⟩=false:=aA Bq 1;have acw:W.heap.size∉S':=fun h=>by rcases X7 _ h with h | h;exact UO h;omega
   obtain⟨B,hB⟩:∃ B,B=(W3.setCell ⟨W.heap.size,0,none⟩ (.int .i64 (L2:Int))).setCell ⟨W.heap.size,1,none⟩ (.int .i64 (W2:Int)):=⟨_,rfl⟩;have hkB:Kept [W.heap.size] W3 B:=by rw[hB];exact ((Kept.refl _ _).setCell (.inl (by simp)) _).setCell (.inl (by simp)) _
   have hJB:=HJk.out _ S' W3 B hJ3 hkB acw;have X8:CU B Bn lb lo m c V W.heap.size (j+1+1):=by
    refine⟨hkB.cell hit3.box (by simp;omega),fun i hi=>hkB.cell (hit3.vals i hi) (by simp;omega),fun i hi=>hkB.cell (hit3.tab i hi) (by simp;omega),?_⟩;rw[hB,heap_set (heap_set Bq 0 _) 1 _,HL2.out,HW2.out];rfl
   have hSB:∀ b,b∈S'->b ∉ [Bn,lb,17]/\b≠W.heap.size:=by
    intro b hb;rcases X7 b hb with h | h
    ·exact Qi.out b h
    ·refine⟨?_,by omega⟩;simp
     omega
   have JY:=(show Hid _ from hB);have HJB:=(show Hid _ from hJB);have acy:=(show Hid _ from X8);have Az:=(show Hid _ from hSB);clear hp3 hit3 Bq hJ3 hk3 X7 hkB hJB X8 hSB hB DF HR SN pR HIT HJ X3 hy bJ;gi_wp2;go_roundw;case rel=>rw[<-JY.out];exact⟨j+1+1,S',by omega,by omega,by go_num,HJB.out,Az.out,acy.out⟩
   case measure=>simp[intOf];omega
  ·have:k=m:=by omega
   subst this;have HJ:=(show Hid _ from hJ);clear hJ hit X0;gi_wp2;go_end0;exact⟨⟨_,rfl⟩,S,HJ.out⟩
end Go.Proofs.YtdlceolmpcjjiaaGreatDoor
