import Derived.Test.YtalliohkalnaeaaGreatDoorRowsDef
import Derived.Test.YtalliohkalnaeaaGreatDoorPtMergeGroup
import Derived.Test.YtalliohkalnaeaaGreatDoorPutGroup
import Derived.Test.YtalliohkalnaeaaGreatDoorRegStoreGroup
set_option maxRecDepth 1000000
set_option maxHeartbeats 2000000
namespace Go.Proofs.YtalliohkalnaeaaGreatDoor
open Go.RowKit aZ qY
theorem Rs {w:World} {b:Nat} {p q r s t:Value} {T:TypeId} {f:Nat×Nat} (h:w.heap[b]? = some (.cells #[p,q,r,s,t] T f)) (p' q' r' s' t':Value) :
  (((((w.setCell ⟨b,0,none⟩ p').setCell ⟨b,1,none⟩ q').setCell ⟨b,2,none⟩ r').setCell ⟨b,3,none⟩ s').setCell ⟨b,4,none⟩ t').heap[b]? = some (.cells #[p',q',r',s',t'] T f):=
 heap_set (heap_set (heap_set (heap_set (heap_set h 0 p') 1 q') 2 r') 3 s') 4 t'
theorem Rt {w z:World} {n b:Nat} (h:Below n w z) (hb:n<=b) (p q r s t:Value):Below n w (((((z.setCell ⟨b,0,none⟩ p).setCell ⟨b,1,none⟩ q).setCell ⟨b,2,none⟩ r).setCell ⟨b,3,none⟩ s).setCell ⟨b,4,none⟩ t):=
 ((((h.setCell (p:=⟨b,0,none⟩) hb _).setCell (p:=⟨b,1,none⟩) hb _).setCell (p:=⟨b,2,none⟩) hb _).setCell (p:=⟨b,3,none⟩) hb _).setCell (p:=⟨b,4,none⟩) hb _
theorem adf {z:World} {b c:Nat} (h:c≠b) (p q r s t:Value):(((((z.setCell ⟨b,0,none⟩ p).setCell ⟨b,1,none⟩ q).setCell ⟨b,2,none⟩ r).setCell ⟨b,3,none⟩ s).setCell ⟨b,4,none⟩ t).heap[c]? = z.heap[c]?:=by
 rw[Below.heap_setCell _ _ _ _ (by exact h),Below.heap_setCell _ _ _ _ (by exact h),Below.heap_setCell _ _ _ _ (by exact h),Below.heap_setCell _ _ _ _ (by exact h),Below.heap_setCell _ _ _ _ (by exact h)]
theorem XA (w:World) (la:Option Addr) (c:Nat) (l:List (Int×Nat)) (hP:kD w la l) (hI:mO l) (hn:l.length<=1000) :
  Calls Tryz.prog 31 #[.slice la l.length c] w fun e w'=>e = .returned (pG (ofM l))/\Below w.heap.size w w':=by
 have HP:Hid (kD w la l):=hP;have HI:Hid (mO l):=hI;clear hP hI;obtain⟨n,hnn⟩:∃ n,l.length=n:=⟨_,rfl⟩;rw[hnn];have hn':n<=1000:=by omega
 have HN:=(show Hid _ from hnn);clear hnn hn;go_enter Tryz.func31,Tryz.ntmps31;go_wp2_with fail;go_loopw [5,8] (fun _ i wr=>∃ k:Nat,k<=n/\i = .int .i64 k/\wr.heap[w.heap.size]? = some (.cells #[.int .i64 0,.int .u64 0,.int .u64 0,.int .u64 0,.int .u64 0] 45 (0,0))/\wr.heap[w.heap.size+1]? = some (.cells #[.int .i64 (ofM (l.take k)).c,.int .u64 (ofM (l.take k)).l,.int .u64 (ofM (l.take k)).m,.int .u64 (ofM (l.take k)).t,.int .u64 (ofM (l.take k)).s] 45 (0,0))/\Below w.heap.size w wr) (fun _ i _=>n-(intOf i).toNat);case atStart=>
  refine⟨0,Nat.zero_le _,rfl,?_,?_,((Below.refl _ _).alloc (Nat.le_refl _) _).alloc (by simp) _⟩
  ·rw[Below.heap_alloc _ _ _ (by simp)];exact heap_alloc_new _ _
  ·have:=heap_alloc_new (w.alloc (.cells #[.int .i64 0,.int .u64 0,.int .u64 0,.int .u64 0,.int .u64 0] 45)) (.cells #[.int .i64 0,.int .u64 0,.int .u64 0,.int .u64 0,.int .u64 0] 45);rw[show (w.alloc (.cells #[.int .i64 0,.int .u64 0,.int .u64 0,.int .u64 0,.int .u64 0] 45)).heap.size=w.heap.size+1 by simp] at this;exact this
 case round=>
  obtain⟨k,hk,rfl,h0,h1,hbr⟩:=hrel;by_cases hlt:k<n
  ·have hkl:k<l.length:=by have:=HN.out;omega
   have hst:l.take (k+1)=l.take k ++ [l[k]]:=List.take_succ_eq_append_getElem hkl;have U4:In (ofM (l.take k)):=Qn (fun p hp=>HI.out p (List.mem_of_mem_take hp));have xL:=(HI.out l[k] (List.getElem_mem hkl)).2.2;have hck:(ofM (l.take k)).c=k:=by rw[FK,List.length_take];omega
   have hsn:ofM (l.take (k+1))=jq (ofM (l.take k)) (oU l[k].2):=by rw[hst,K6]
   rcases HP.out with h | ⟨b,o,rfl,hc⟩
   ·rw[h] at hkl;simp at hkl
   ·obtain⟨c0,c1⟩:=hc k hkl;have hbl:=World.block_lt_of_cell? w ⟨b,_,none⟩ c0;rw[<-hbr.cell (p:=⟨b,o+k*2,none⟩) hbl] at c0;rw[<-hbr.cell (p:=⟨b,o+k*2+1,none⟩) hbl] at c1;generalize l[k]=p at *;obtain⟨t,u⟩:=p;simp only at c0 c1 xL hsn;have K4:(k:Int)<(n:Int):=by omega
    have hk0:(0:Int)<=(k:Int):=by omega
    have hwl:=hbr.size;have hs1:w.heap.size+1<wr.heap.size:=lt_of_block h1;have Ig:Hid (∀ w0,Calls Tryz.prog 30 #[pG (ofM (l.take k)),pG (oU u)] w0 fun e w'=>e = .returned (pG (ofM (l.take (k+1))))/\Below w0.heap.size w0 w'):=fun w0=>by
     rw[hsn];exact IQ w0 _ _ (by rw[hck];simp[oU];omega) U4 ⟨xL,xL,xL,xL⟩
    have adg:=(show Hid _ from fun w0=>S9 w0 t u);obtain⟨S',hS'⟩:∃ S',ofM (l.take (k+1))=S':=⟨_,rfl⟩;rw[hS'] at Ig;generalize ofM (l.take k)=S at *;obtain⟨q1,q2,q3,q4,q5⟩:=S;obtain⟨r1,r2,r3,r4,r5⟩:=S';have FT:Hid (ofM (l.take (k+1))=⟨r1,r2,r3,r4,r5⟩):=hS';have HAD:Hid (∀ w0,Calls Tryz.prog 30 #[.agg #[.int .i64 q1,.int .u64 q2,.int .u64 q3,.int .u64 q4,.int .u64 q5],.agg #[.int .i64 1,.int .u64 u,.int .u64 u,.int .u64 u,.int .u64 u]] w0 fun e w'=>e = .returned (.agg #[.int .i64 r1,.int .u64 r2,.int .u64 r3,.int .u64 r4,.int .u64 r5])/\Below w0.heap.size w0 w'):=Ig;have nZ:Hid (∀ w0,Calls Tryz.prog 58 #[.agg #[.int .i64 t,.int .u64 (u:Int)]] w0 fun e w'=>e = .returned (.agg #[.int .i64 1,.int .u64 u,.int .u64 u,.int .u64 u,.int .u64 u])/\Below w0.heap.size w0 w'):=adg;clear Ig adg;simp only at h1;have e0:=ak h1 0;have e1:=ak h1 1;have e2:=ak h1 2;have e3:=ak h1 3;have e4:=ak h1 4;simp at e0 e1 e2 e3 e4;have HH0:=(show Hid _ from h0);have HH1:=(show Hid _ from h1);have bq:=(show Hid _ from hbr);clear hc hst hbr h0 h1 hsn U4 hck hS';obtain⟨W0,hW0⟩:∃ W0,W0=wr.alloc (.cells #[.int .i64 t,.int .u64 (u:Int)] 39):=⟨_,rfl⟩;have hs0:W0.heap.size=wr.heap.size+1:=by rw[hW0];simp
    have hk1:W0.heap[w.heap.size+1]? = some (.cells #[.int .i64 q1,.int .u64 q2,.int .u64 q3,.int .u64 q4,.int .u64 q5] 45 (0,0)):=by rw[hW0,Below.heap_alloc _ _ _ hs1];exact HH1.out
    have hkp:W0.heap[wr.heap.size]? = some (.cells #[.int .i64 t,.int .u64 (u:Int)] 39 (0,0)):=by rw[hW0];exact heap_alloc_new _ _
    have Ey:Hid (∀ z,Below W0.heap.size W0 z->(z.cell? ⟨w.heap.size+1,0,none⟩=some (.int .i64 q1)/\z.cell? ⟨w.heap.size+1,1,none⟩=some (.int .u64 q2)/\z.cell? ⟨w.heap.size+1,2,none⟩=some (.int .u64 q3)/\z.cell? ⟨w.heap.size+1,3,none⟩=some (.int .u64 q4)/\z.cell? ⟨w.heap.size+1,4,none⟩=some (.int .u64 q5))/\z.cell? ⟨wr.heap.size,0,none⟩=some (.int .i64 t)/\z.cell? ⟨wr.heap.size,1,none⟩=some (.int .u64 (u:Int))):=fun z hz=>by
     have h1:=(hz.block _ (by omega)).trans hk1;have h2:=(hz.block _ (by omega)).trans hkp;exact⟨⟨ak h1 0,ak h1 1,ak h1 2,ak h1 3,ak h1 4⟩,ak h2 0,ak h2 1⟩
    have bM:=(show Hid _ from hk1);clear hs0 hk1 hkp;go_wp2_with fail;rw[<-hW0];have HW0:=(show Hid _ from hW0);clear hW0;refine l5 (S:=fun z=>(z.cell? ⟨w.heap.size+1,0,none⟩=some (.int .i64 q1)/\z.cell? ⟨w.heap.size+1,1,none⟩=some (.int .u64 q2)/\z.cell? ⟨w.heap.size+1,2,none⟩=some (.int .u64 q3)/\z.cell? ⟨w.heap.size+1,3,none⟩=some (.int .u64 q4)/\z.cell? ⟨w.heap.size+1,4,none⟩=some (.int .u64 q5))/\z.cell? ⟨wr.heap.size,0,none⟩=some (.int .i64 t)/\z.cell? ⟨wr.heap.size,1,none⟩=some (.int .u64 (u:Int))) (by kernel_rfl) 4 (Ey.out _ ((Below.refl _ _).drew)) (fun hHeld=>?_);refine iW (i:=0) (v:=.agg #[.int .i64 q1,.int .u64 q2,.int .u64 q3,.int .u64 q4,.int .u64 q5]) rfl (by kernel_rfl) (by kernel_rfl) (by kernel_rfl) (by kernel_rfl) (by kernel_rfl) (by kernel_rfl) (fun _ _ _ h=>h) (Or.inl ⟨by rfl,?_⟩) hHeld ?_
    ·intro w hSw;obtain⟨⟨j0,j1,j2,j3,j4⟩,j5,j6⟩:=hSw;go_simp
    try simp only[Act.put]
    refine iW (i:=1) (v:=.agg #[.int .i64 t,.int .u64 (u:Int)]) rfl (by kernel_rfl) (by kernel_rfl) (by kernel_rfl) (by kernel_rfl) (by kernel_rfl) (by kernel_rfl) (fun _ _ _ h=>h) (Or.inl ⟨by rfl,?_⟩) hHeld ?_
    ·intro w hSw;obtain⟨⟨j0,j1,j2,j3,j4⟩,j5,j6⟩:=hSw;go_simp
    try simp only[Act.put]
    refine aX (rs:=[2]) (by kernel_rfl) (by simp) ?_;refine aA.cons rfl (fun K hK=>?_) aA.nil;go_simp
    refine Calls.mono (nZ.out _) ?_;rintro e w1 ⟨rfl,hb1⟩;dsimp only
    have hb1':Below W0.heap.size W0 w1:=((Below.refl _ _).drew).trans (hb1.mono (by simp));refine hK.out _ _ (Ey.out _ hb1') ?_;clear hK K;try simp only[Act.put]
    refine aX (rs:=[3]) (by kernel_rfl) (by simp) ?_;refine aA.cons rfl (fun K hK=>?_) aA.nil;go_simp
    refine Calls.mono (HAD.out _) ?_;rintro e w2 ⟨rfl,hb2⟩;dsimp only
    have hb2':Below W0.heap.size W0 w2:=hb1'.trans (hb2.mono hb1'.size);refine hK.out _ _ (Ey.out _ hb2') ?_;clear hK K;try simp only[Act.put]
    have hkk:=(hb2'.block _ (lt_of_block bM.out)).trans bM.out;have z0:=ak hkk 0;have z1:=ak hkk 1;have z2:=ak hkk 2;have z3:=ak hkk 3;have z4:=ak hkk 4;simp at z0 z1 z2 z3 z4;have f0:=av hkk 0;have f1:=av hkk 1;have f2:=av hkk 2;have f3:=av hkk 3;have f4:=av hkk 4;have rV:=(show Hid _ from Rs hkk (.int .i64 r1) (.int .u64 r2) (.int .u64 r3) (.int .u64 r4) (.int .u64 r5));have HB2:=(show Hid _ from hb2');clear hkk hb2 hb2' hb1 hb1';refine aX (rs:=[4]) (by kernel_rfl) (by simp) ?_;refine aA.last rfl (by kernel_rfl) (fun K hK=>?_) aA.nil;go_simp
    refine hK.out _ _ ?_;clear hK K;refine jl (by kernel_rfl) ?_ _;go_wp2;go_roundw;case rel=>
     have hbW:Below w.heap.size w W0:=by rw[HW0.out];exact bq.out.alloc hwl _
     refine⟨k+1,by omega,by go_num,?_,by rw[FT.out];exact rV.out,Rt (hbW.trans (HB2.out.mono hbW.size)) (by omega) _ _ _ _ _⟩;rw[adf (by omega),HB2.out.block _ (by rw[HW0.out];simp;omega),HW0.out,Below.heap_alloc _ _ _ (by omega)];exact HH0.out
    case measure=>simp[intOf]<;>omega
  ·have hke:k=n:=by omega
   subst hke;have ht:l.take k=l:=List.take_of_length_le (by have:=HN.out;omega);rw[ht] at h1;obtain⟨S,hS⟩:∃ S,ofM l=S:=⟨_,rfl⟩;rw[hS] at h1;have HS:=(show Hid _ from hS);clear hS;obtain⟨q1,q2,q3,q4,q5⟩:=S;simp only at h1;have e0:=ak h1 0;have e1:=ak h1 1;have e2:=ak h1 2;have e3:=ak h1 3;have e4:=ak h1 4;simp at e0 e1 e2 e3 e4;have f0:=av h0 0;have f1:=av h0 1;have f2:=av h0 2;have f3:=av h0 3;have f4:=av h0 4;have g0:=ak h0 0;have g1:=ak h0 1;have g2:=ak h0 2;have g3:=ak h0 3;have g4:=ak h0 4;simp at g0 g1 g2 g3 g4;have rV:=(show Hid _ from Rs h0 (.int .i64 q1) (.int .u64 q2) (.int .u64 q3) (.int .u64 q4) (.int .u64 q5));have bq:=(show Hid _ from hbr);clear h0 h1 hbr;go_wp2;have y0:=ak rV.out 0;have y1:=ak rV.out 1;have y2:=ak rV.out 2;have y3:=ak rV.out 3;have y4:=ak rV.out 4;simp at y0 y1 y2 y3 y4;exact bodyPost_ret (v:=.agg #[.int .i64 q1,.int .u64 q2,.int .u64 q3,.int .u64 q4,.int .u64 q5]) (by simp[results,Tryz.results31,go_sem,y0,y1,y2,y3,y4]) rfl ⟨by rw[HS.out];rfl,Rt bq.out (Nat.le_refl _) _ _ _ _ _⟩
end Go.Proofs.YtalliohkalnaeaaGreatDoor
namespace Go.Proofs.YtalliohkalnaeaaGreatDoor
open Go.RowKit aZ qY
end Go.Proofs.YtalliohkalnaeaaGreatDoor
set_option maxRecDepth 1000000
set_option maxHeartbeats 2000000
namespace qY
def flat (l:List (List UInt8×List (Int×Nat))):List (Int×Nat):=l.flatMap Prod.snd
theorem JE (l:List (List UInt8×List (Int×Nat))) (r:List UInt8×List (Int×Nat)):flat (l ++ [r])=flat l++r.2:=by simp[flat]
theorem U5 (l:List (List UInt8×List (Int×Nat))) (k:Nat):(flat (l.take k)).length<=(flat l).length:=by
 have h:flat l=flat (l.take k)++flat (l.drop k):=by
  unfold flat
  rw[<-List.flatMap_append,List.take_append_drop]
 rw[h,List.length_append];omega
theorem XB {l:List (List UInt8×List (Int×Nat))} {p:Int×Nat} (h:p∈flat l):∃ r,r∈l/\p∈r.2:=by simpa [flat] using h
theorem XC (l:List (List UInt8×List (Int×Nat))) (r:List UInt8×List (Int×Nat)):ofM (flat (l ++ [r]))=jq (ofM (flat l)) (ofM r.2):=by rw[JE,Qm]
end qY
namespace Go.Proofs.YtalliohkalnaeaaGreatDoor
open Go.RowKit aZ qY
theorem Ow (w:World) (la:Option Addr) (c:Nat) (rows:List (List UInt8×List (Int×Nat))) (hP:qj w la rows) (hI:∀ r,r∈rows->mO r.2) (hn:rows.length<=1000) (hf:(flat rows).length<=1000) :
  Calls Tryz.prog 13 #[.slice la rows.length c] w fun e w'=>e = .returned (pG (ofM (flat rows)))/\Below w.heap.size w w':=by
 have HP:Hid (qj w la rows):=hP;have HI:=(show Hid _ from hI);have HF:=(show Hid _ from hf);clear hP hI hf;obtain⟨n,hnn⟩:∃ n,rows.length=n:=⟨_,rfl⟩;rw[hnn];have hn':n<=1000:=by omega
 have HN:=(show Hid _ from hnn);clear hnn hn;go_enter Tryz.func13,Tryz.ntmps13;go_wp2_with fail;go_loopw [5,8] (fun _ i wr=>∃ k:Nat,k<=n/\i = .int .i64 k/\wr.heap[w.heap.size]? = some (.cells #[.int .i64 0,.int .u64 0,.int .u64 0,.int .u64 0,.int .u64 0] 45 (0,0))/\wr.heap[w.heap.size+1]? = some (.cells #[.int .i64 (ofM (flat (rows.take k))).c,.int .u64 (ofM (flat (rows.take k))).l,.int .u64 (ofM (flat (rows.take k))).m,.int .u64 (ofM (flat (rows.take k))).t,.int .u64 (ofM (flat (rows.take k))).s] 45 (0,0))/\Below w.heap.size w wr) (fun _ i _=>n-(intOf i).toNat);case atStart=>
  refine⟨0,Nat.zero_le _,rfl,?_,?_,((Below.refl _ _).alloc (Nat.le_refl _) _).alloc (by simp) _⟩
  ·rw[Below.heap_alloc _ _ _ (by simp)];exact heap_alloc_new _ _
  ·have:=heap_alloc_new (w.alloc (.cells #[.int .i64 0,.int .u64 0,.int .u64 0,.int .u64 0,.int .u64 0] 45)) (.cells #[.int .i64 0,.int .u64 0,.int .u64 0,.int .u64 0,.int .u64 0] 45);rw[show (w.alloc (.cells #[.int .i64 0,.int .u64 0,.int .u64 0,.int .u64 0,.int .u64 0] 45)).heap.size=w.heap.size+1 by simp] at this;exact this
 case round=>
  obtain⟨k,hk,rfl,h0,h1,hbr⟩:=hrel;by_cases hlt:k<n
  ·have hkl:k<rows.length:=by have:=HN.out;omega
   have hst:rows.take (k+1)=rows.take k ++ [rows[k]]:=List.take_succ_eq_append_getElem hkl;have U4:In (ofM (flat (rows.take k))):=Qn (fun p hp=>by
    obtain⟨r,hr,hp⟩:=XB hp;exact HI.out r (List.mem_of_mem_take hr) p hp)
   have xL:mO rows[k].2:=HI.out rows[k] (List.getElem_mem hkl);have hIs:In (ofM rows[k].2):=Qn xL;have hle:(flat (rows.take k)).length+rows[k].2.length<=1000:=by
    have h2:=U5 rows (k+1);rw[hst,JE,List.length_append] at h2;have:=HF.out;omega
   have hsn:ofM (flat (rows.take (k+1)))=jq (ofM (flat (rows.take k))) (ofM rows[k].2):=by rw[hst,XC]
   rcases HP.out with h | ⟨b,o,rfl,hc⟩
   ·rw[h] at hkl;simp at hkl
   ·obtain⟨c0,A,C,c1,hPk⟩:=hc k hkl;have hbl:=World.block_lt_of_cell? w ⟨b,_,none⟩ c0;rw[<-hbr.cell (p:=⟨b,o+k*2,none⟩) hbl] at c0;rw[<-hbr.cell (p:=⟨b,o+k*2+1,none⟩) hbl] at c1;have K4:(k:Int)<(n:Int):=by omega
    have hk0:(0:Int)<=(k:Int):=by omega
    have hwl:=hbr.size;have hs1:w.heap.size+1<wr.heap.size:=lt_of_block h1;obtain⟨nm,hnm⟩:∃ nm:Value,nm=encStr rows[k].1:=⟨_,rfl⟩;have hns:∃ s,nm = .string s:=⟨_,hnm⟩;rw[<-hnm] at c0;have XD:∀ w0,Calls Tryz.prog 30 #[pG (ofM (flat (rows.take k))),pG (ofM rows[k].2)] w0 fun e w'=>e = .returned (pG (ofM (flat (rows.take (k+1)))))/\Below w0.heap.size w0 w':=fun w0=>by
     rw[hsn];exact IQ w0 _ _ (by rw[FK,FK];omega) U4 hIs
    have hOF:∀ w0,Below wr.heap.size wr w0->Calls Tryz.prog 31 #[.slice A rows[k].2.length C] w0 fun e w'=>e = .returned (pG (ofM rows[k].2))/\Below w0.heap.size w0 w':=fun w0 h=>XA w0 A C rows[k].2 (hPk.below (hbr.trans (h.mono hbr.size))) xL (by omega)
    generalize rows[k].2.length=m at *;obtain⟨S',hS'⟩:∃ S',ofM (flat (rows.take (k+1)))=S':=⟨_,rfl⟩;rw[hS'] at XD;generalize ofM (flat (rows.take k))=S at *;generalize ofM rows[k].2=SA at *;obtain⟨q1,q2,q3,q4,q5⟩:=S;obtain⟨r1,r2,r3,r4,r5⟩:=S';obtain⟨a1,a2,a3,a4,a5⟩:=SA;have FT:Hid (ofM (flat (rows.take (k+1)))=⟨r1,r2,r3,r4,r5⟩):=hS';have HAD:Hid (∀ w0,Calls Tryz.prog 30 #[.agg #[.int .i64 q1,.int .u64 q2,.int .u64 q3,.int .u64 q4,.int .u64 q5],.agg #[.int .i64 a1,.int .u64 a2,.int .u64 a3,.int .u64 a4,.int .u64 a5]] w0 fun e w'=>e = .returned (.agg #[.int .i64 r1,.int .u64 r2,.int .u64 r3,.int .u64 r4,.int .u64 r5])/\Below w0.heap.size w0 w'):=XD;simp only at h1;have HH0:=(show Hid _ from h0);have HH1:=(show Hid _ from h1);have bq:=(show Hid _ from hbr);obtain⟨W0,hW0⟩:∃ W0,W0=wr.alloc (.cells #[nm,.slice A m C] 58):=⟨_,rfl⟩;have hs0:W0.heap.size=wr.heap.size+1:=by rw[hW0];simp
    have hbW:Below wr.heap.size wr W0:=by rw[hW0];exact (Below.refl _ _).alloc (Nat.le_refl _) _
    have BR:Hid (∀ w0,Below W0.heap.size W0 w0->Calls Tryz.prog 31 #[.slice A m C] w0 fun e w'=>e = .returned (.agg #[.int .i64 a1,.int .u64 a2,.int .u64 a3,.int .u64 a4,.int .u64 a5])/\Below w0.heap.size w0 w'):=fun w0 h=>hOF w0 (hbW.trans (h.mono hbW.size))
    have hk1:W0.heap[w.heap.size+1]? = some (.cells #[.int .i64 q1,.int .u64 q2,.int .u64 q3,.int .u64 q4,.int .u64 q5] 45 (0,0)):=by rw[hW0,Below.heap_alloc _ _ _ hs1];exact HH1.out
    have hkp:W0.heap[wr.heap.size]? = some (.cells #[nm,.slice A m C] 58 (0,0)):=by rw[hW0];exact heap_alloc_new _ _
    have Ey:Hid (∀ z,Below W0.heap.size W0 z->(z.cell? ⟨w.heap.size+1,0,none⟩=some (.int .i64 q1)/\z.cell? ⟨w.heap.size+1,1,none⟩=some (.int .u64 q2)/\z.cell? ⟨w.heap.size+1,2,none⟩=some (.int .u64 q3)/\z.cell? ⟨w.heap.size+1,3,none⟩=some (.int .u64 q4)/\z.cell? ⟨w.heap.size+1,4,none⟩=some (.int .u64 q5))/\z.cell? ⟨wr.heap.size,1,none⟩=some (.slice A m C)):=fun z hz=>by
     have h1:=(hz.block _ (by omega)).trans hk1;have h2:=(hz.block _ (by omega)).trans hkp;exact⟨⟨ak h1 0,ak h1 1,ak h1 2,ak h1 3,ak h1 4⟩,ak h2 1⟩
    have bM:=(show Hid _ from hk1);clear hc hst hbr h0 h1 hsn U4 hS' XD hOF xL hIs hle hbW hs0 hk1 hkp hPk hnm;obtain⟨sn,rfl⟩:=hns;go_wp2_with fail;rw[<-hW0];have HW0:=(show Hid _ from hW0);clear hW0;refine l5 (S:=fun z=>(z.cell? ⟨w.heap.size+1,0,none⟩=some (.int .i64 q1)/\z.cell? ⟨w.heap.size+1,1,none⟩=some (.int .u64 q2)/\z.cell? ⟨w.heap.size+1,2,none⟩=some (.int .u64 q3)/\z.cell? ⟨w.heap.size+1,3,none⟩=some (.int .u64 q4)/\z.cell? ⟨w.heap.size+1,4,none⟩=some (.int .u64 q5))/\z.cell? ⟨wr.heap.size,1,none⟩=some (.slice A m C)) (by kernel_rfl) 5 (Ey.out _ ((Below.refl _ _).drew)) (fun hHeld=>?_);refine iW (i:=0) (v:=.agg #[.int .i64 q1,.int .u64 q2,.int .u64 q3,.int .u64 q4,.int .u64 q5]) rfl (by kernel_rfl) (by kernel_rfl) (by kernel_rfl) (by kernel_rfl) (by kernel_rfl) (by kernel_rfl) (fun _ _ _ h=>h) (Or.inl ⟨by rfl,?_⟩) hHeld ?_
    ·intro w hSw;obtain⟨⟨j0,j1,j2,j3,j4⟩,j5⟩:=hSw;go_simp
    try simp only[Act.put]
    refine jB (i:=1) (v:=.pointer (some ⟨wr.heap.size,1,none⟩)) rfl (by kernel_rfl) (by kernel_rfl) (by kernel_rfl) (by kernel_rfl) (fun _ _ _ h=>h) (Or.inl ⟨by rfl,?_⟩) (fun _=>hHeld) ?_
    ·intro w _;go_simp
    try simp only[Act.put]
    refine iW (i:=2) (v:=.slice A m C) rfl (by kernel_rfl) (by kernel_rfl) (by kernel_rfl) (by kernel_rfl) (by kernel_rfl) (by kernel_rfl) (fun _ _ _ h=>h) (Or.inl ⟨by rfl,?_⟩) hHeld ?_
    ·intro w hSw;obtain⟨⟨j0,j1,j2,j3,j4⟩,j5⟩:=hSw;go_simp
    try simp only[Act.put]
    refine aX (rs:=[3]) (by kernel_rfl) (by simp) ?_;refine aA.cons rfl (fun K hK=>?_) aA.nil;go_simp
    refine Calls.mono (BR.out _ ((Below.refl _ _).drew)) ?_;rintro e w1 ⟨rfl,hw1⟩;dsimp only
    have Hw1:Hid (Below W0.heap.size W0 w1):=((Below.refl _ _).drew).trans (hw1.mono (by simp));refine hK.out _ _ (Ey.out _ Hw1.out) ?_;clear hK K;try simp only[Act.put]
    refine aX (rs:=[4]) (by kernel_rfl) (by simp) ?_;refine aA.cons rfl (fun K hK=>?_) aA.nil;go_simp
    refine Calls.mono (HAD.out _) ?_;rintro e w2 ⟨rfl,hw2⟩;dsimp only
    have Za:Hid (Below W0.heap.size W0 w2):=Hw1.out.trans (hw2.mono Hw1.out.size);refine hK.out _ _ (Ey.out _ Za.out) ?_;clear hK K;try simp only[Act.put]
    have hkk:=(Za.out.block _ (lt_of_block bM.out)).trans bM.out;have z0:=ak hkk 0;have z1:=ak hkk 1;have z2:=ak hkk 2;have z3:=ak hkk 3;have z4:=ak hkk 4;simp at z0 z1 z2 z3 z4;have f0:=av hkk 0;have f1:=av hkk 1;have f2:=av hkk 2;have f3:=av hkk 3;have f4:=av hkk 4;have rV:=(show Hid _ from Rs hkk (.int .i64 r1) (.int .u64 r2) (.int .u64 r3) (.int .u64 r4) (.int .u64 r5));clear hkk hw2 hw1;refine aX (rs:=[5]) (by kernel_rfl) (by simp) ?_;refine aA.last rfl (by kernel_rfl) (fun K hK=>?_) aA.nil;go_simp
    refine hK.out _ _ ?_;clear hK K;refine jl (by kernel_rfl) ?_ _;go_wp2;go_roundw;case rel=>
     have hbW:Below w.heap.size w W0:=by rw[HW0.out];exact bq.out.alloc hwl _
     refine⟨k+1,by omega,by go_num,?_,by rw[FT.out];exact rV.out,Rt (hbW.trans (Za.out.mono hbW.size)) (by omega) _ _ _ _ _⟩;rw[adf (by omega),Za.out.block _ (by rw[HW0.out];simp;omega),HW0.out,Below.heap_alloc _ _ _ (by omega)];exact HH0.out
    case measure=>simp[intOf]<;>omega
  ·have hke:k=n:=by omega
   subst hke;have ht:rows.take k=rows:=List.take_of_length_le (by have:=HN.out;omega);rw[ht] at h1;obtain⟨S,hS⟩:∃ S,ofM (flat rows)=S:=⟨_,rfl⟩;rw[hS] at h1;have HS:=(show Hid _ from hS);clear hS;obtain⟨q1,q2,q3,q4,q5⟩:=S;simp only at h1;have e0:=ak h1 0;have e1:=ak h1 1;have e2:=ak h1 2;have e3:=ak h1 3;have e4:=ak h1 4;simp at e0 e1 e2 e3 e4;have f0:=av h0 0;have f1:=av h0 1;have f2:=av h0 2;have f3:=av h0 3;have f4:=av h0 4;have g0:=ak h0 0;have g1:=ak h0 1;have g2:=ak h0 2;have g3:=ak h0 3;have g4:=ak h0 4;simp at g0 g1 g2 g3 g4;have rV:=(show Hid _ from Rs h0 (.int .i64 q1) (.int .u64 q2) (.int .u64 q3) (.int .u64 q4) (.int .u64 q5));have bq:=(show Hid _ from hbr);clear h0 h1 hbr;go_wp2;have y0:=ak rV.out 0;have y1:=ak rV.out 1;have y2:=ak rV.out 2;have y3:=ak rV.out 3;have y4:=ak rV.out 4;simp at y0 y1 y2 y3 y4;exact bodyPost_ret (v:=.agg #[.int .i64 q1,.int .u64 q2,.int .u64 q3,.int .u64 q4,.int .u64 q5]) (by simp[results,Tryz.results13,go_sem,y0,y1,y2,y3,y4]) rfl ⟨by rw[HS.out];rfl,Rt bq.out (Nat.le_refl _) _ _ _ _ _⟩
end Go.Proofs.YtalliohkalnaeaaGreatDoor
