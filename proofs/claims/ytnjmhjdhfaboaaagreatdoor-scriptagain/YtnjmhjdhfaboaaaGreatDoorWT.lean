import Derived.Test.YtnjmhjdhfaboaaaGreatDoorY
import Derived.Test.YtnjmhjdhfaboaaaGreatDoorN
import Derived.Test.YtnjmhjdhfaboaaaGreatDoorP
import Derived.Test.YtnjmhjdhfaboaaaGreatDoorX
set_option maxRecDepth 1000000
set_option maxHeartbeats 2000000
open Nat (le_refl zero_le)
open List
open Go.Proofs.Tryz
namespace Go.Proofs.YtnjmhjdhfaboaaaGreatDoor
open Go.RowKit aU iT
theorem ĥ{p:Prop}(h:p):Go.RowKit.Hid p:=h
theorem Yu{w:World}{b:Nat}{p q r s t:Value}{T:TypeId}{f:Nat×Nat}(h:w.heap[b]? = some (.cells #[p,q,r,s,t] T f))(j o z s' A:Value):
  (((((w.setCell ⟨b,0,none⟩ j).setCell ⟨b,1,none⟩ o).setCell ⟨b,2,none⟩ z).setCell ⟨b,3,none⟩ s').setCell ⟨b,4,none⟩ A).heap[b]? = some (.cells #[j,o,z,s',A] T f):=
 heap_set (heap_set (heap_set (heap_set (heap_set h 0 j) 1 o) 2 z) 3 s') 4 A
theorem Yv{w z:World}{n b:Nat}(h:Below n w z)(j:n<=b)(p q r s t:Value):Below n w (((((z.setCell ⟨b,0,none⟩ p).setCell ⟨b,1,none⟩ q).setCell ⟨b,2,none⟩ r).setCell ⟨b,3,none⟩ s).setCell ⟨b,4,none⟩ t):=
 ((((h.setCell (p:=⟨b,0,none⟩) j _).setCell (p:=⟨b,1,none⟩) j _).setCell (p:=⟨b,2,none⟩) j _).setCell (p:=⟨b,3,none⟩) j _).setCell (p:=⟨b,4,none⟩) j _
theorem ajQ{z:World}{b c:Nat}(h:c≠b)(p q r s t:Value):(((((z.setCell ⟨b,0,none⟩ p).setCell ⟨b,1,none⟩ q).setCell ⟨b,2,none⟩ r).setCell ⟨b,3,none⟩ s).setCell ⟨b,4,none⟩ t).heap[c]? = z.heap[c]?:=by
 rw[Below.heap_setCell _ _ _ _ (by exact h),Below.heap_setCell _ _ _ _ (by exact h),Below.heap_setCell _ _ _ _ (by exact h),Below.heap_setCell _ _ _ _ (by exact h),Below.heap_setCell _ _ _ _ (by exact h)]
theorem adN(w:World)(la:Option Addr)(c:Nat)(l:List (Int×Nat))(hP:mG w la l)(hI:nI l)(hn:l.length<=1000):
  Calls prog 80 #[.slice la l.length c] w λe w'=>e = .returned (qK (ofM l))/\Below w.heap.size w w':=by
 have HP:=ĥ hP;have HI:=ĥ hI;obtain⟨n,Ϝ⟩:=eB l.length;rw[Ϝ];have hn':n<=1000:=fM;have HN:=ĥ Ϝ;go_enter func80,ntmps80;go_wp2_with fail;go_loopw [5,8] (λ_ i wr=>∃k:Nat,k<=n/\i = .int .i64 k/\wr.heap[w.heap.size]? = some (.cells #[.int .i64 0,.int .u64 0,.int .u64 0,.int .u64 0,.int .u64 0] 109 (0,0))/\wr.heap[w.heap.size+1]? = some (.cells #[.int .i64 (ofM (l.take k)).c,.int .u64 (ofM (l.take k)).l,.int .u64 (ofM (l.take k)).m,.int .u64 (ofM (l.take k)).t,.int .u64 (ofM (l.take k)).s] 109 (0,0))/\Below w.heap.size w wr) (λ_ i _=>n-(intOf i).toNat);case atStart=>
  refine⟨0,zero_le _,rfl,?_,?_,((Below.refl _ _).alloc (le_refl _) _).alloc rQ _⟩
  ·rw[Below.heap_alloc _ _ _ rQ];exact heap_alloc_new _ _
  ·have:=heap_alloc_new (w.alloc (.cells #[.int .i64 0,.int .u64 0,.int .u64 0,.int .u64 0,.int .u64 0] 109)) (.cells #[.int .i64 0,.int .u64 0,.int .u64 0,.int .u64 0,.int .u64 0] 109);rw[show (w.alloc (.cells #[.int .i64 0,.int .u64 0,.int .u64 0,.int .u64 0,.int .u64 0] 109)).heap.size=w.heap.size+1 by simp] at this;exact this
 case round=>
  obtain⟨k,hk,rfl,q,j,Z⟩:=hrel;by_cases ϗ:k<n
  ·have ù:k<l.length:=by have:=HN.out;omega
   have ϖ:=take_succ_eq_append_getElem ù;have hIk:In (ofM (l.take k)):=PL (λp hp=>HI.out p (mem_of_mem_take hp));have Bo:=(HI.out l[k] (getElem_mem ù)).2.2;have hck:(ofM (l.take k)).c=k:=by rw[Ku,length_take];omega
   have Ķ:ofM (l.take (k+1))=jT (ofM (l.take k)) (tu l[k].2):=by rw[ϖ,Qy]
   rcases HP.out with h|⟨b,o,rfl,hc⟩
   ·rw[h] at ù;simp at ù
   ·obtain⟨c0,c1⟩:=hc k ù;have Ú:=World.block_lt_of_cell? w ⟨b,_,none⟩ c0;rw[<-Z.cell (p:=⟨b,o+k*2,none⟩) Ú] at c0;rw[<-Z.cell (p:=⟨b,o+k*2+1,none⟩) Ú] at c1;generalize l[k]=p at *;obtain⟨t,u⟩:=p;simp only at c0 c1 Bo Ķ;have Nt:(k:Int)<n:=fM;have Ý:(0:Int)<=k:=fM;have Ñ:=Z.size;have Õ:=lt_of_block j;have RZ:Hid (∀F,Calls prog 79 #[qK (ofM (l.take k)),qK (tu u)] F λe w'=>e = .returned (qK (ofM (l.take (k+1))))/\Below F.heap.size F w'):=λF=>by
     rw[Ķ];exact NG F _ _ (by rw[hck];simp[tu];omega) hIk ⟨Bo,Bo,Bo,Bo⟩
    have ajR:=ĥ (λF=>Zp F t u);obtain⟨S',W⟩:=eB (ofM (l.take (k+1)));rw[W] at RZ;generalize ofM (l.take k)=S at *;obtain⟨I,J,O,Q,R⟩:=S;obtain⟨r1,r2,r3,r4,r5⟩:=S';have KG:=ĥ W;have HAD:Hid (∀F,Calls prog 79 #[.agg #[.int .i64 I,.int .u64 J,.int .u64 O,.int .u64 Q,.int .u64 R],.agg #[.int .i64 1,.int .u64 u,.int .u64 u,.int .u64 u,.int .u64 u]] F λe w'=>e = .returned (.agg #[.int .i64 r1,.int .u64 r2,.int .u64 r3,.int .u64 r4,.int .u64 r5])/\Below F.heap.size F w'):=RZ;have sM:=ĥ ajR;clear RZ ajR;simp only at j;have e0:=ak j 0;have e1:=ak j 1;have e2:=ak j 2;have e3:=ak j 3;have e4:=ak j 4;simp at e0 e1 e2 e3 e4;have HH0:=ĥ q;have HH1:=ĥ j;have bA:=ĥ Z;clear hc ϖ Z q j Ķ hIk hck W;obtain⟨H,Y⟩:=bF (wr.alloc (.cells #[.int .i64 t,.int .u64 (u:Int)] 93));have ă:H.heap.size=wr.heap.size+1:=by rw[Y];simp
    have ϓ:H.heap[w.heap.size+1]? = some (.cells #[.int .i64 I,.int .u64 J,.int .u64 O,.int .u64 Q,.int .u64 R] 109 (0,0)):=by rw[Y,Below.heap_alloc _ _ _ Õ];exact HH1.out
    have Ŏ:H.heap[wr.heap.size]? = some (.cells #[.int .i64 t,.int .u64 (u:Int)] 93 (0,0)):=by rw[Y];exact heap_alloc_new _ _
    have LX:Hid (∀z,Below H.heap.size H z->(z.cell? ⟨w.heap.size+1,0,none⟩=some (.int .i64 I)/\z.cell? ⟨w.heap.size+1,1,none⟩=some (.int .u64 J)/\z.cell? ⟨w.heap.size+1,2,none⟩=some (.int .u64 O)/\z.cell? ⟨w.heap.size+1,3,none⟩=some (.int .u64 Q)/\z.cell? ⟨w.heap.size+1,4,none⟩=some (.int .u64 R))/\z.cell? ⟨wr.heap.size,0,none⟩=some (.int .i64 t)/\z.cell? ⟨wr.heap.size,1,none⟩=some (.int .u64 (u:Int))):=λz hz=>by
     have j:=(hz.block _ fM).trans ϓ;have h2:=(hz.block _ fM).trans Ŏ;exact⟨⟨ak j 0,ak j 1,ak j 2,ak j 3,ak j 4⟩,ak h2 0,ak h2 1⟩
    have dK:=ĥ ϓ;clear ă ϓ Ŏ;go_wp2_with fail;rw[<-Y];have V:=ĥ Y;clear Y;refine eX (S:=λz=>(z.cell? ⟨w.heap.size+1,0,none⟩=some (.int .i64 I)/\z.cell? ⟨w.heap.size+1,1,none⟩=some (.int .u64 J)/\z.cell? ⟨w.heap.size+1,2,none⟩=some (.int .u64 O)/\z.cell? ⟨w.heap.size+1,3,none⟩=some (.int .u64 Q)/\z.cell? ⟨w.heap.size+1,4,none⟩=some (.int .u64 R))/\z.cell? ⟨wr.heap.size,0,none⟩=some (.int .i64 t)/\z.cell? ⟨wr.heap.size,1,none⟩=some (.int .u64 (u:Int))) kM 4 (LX.out _ ((Below.refl _ _).drew)) (λϊ=>?_);refine jA (i:=0) (v:=.agg #[.int .i64 I,.int .u64 J,.int .u64 O,.int .u64 Q,.int .u64 R]) rfl kM kM kM kM kM kM (λ_ _ _ h=>h) (Or.inl ⟨by rfl,?_⟩) ϊ ?_
    ·intro w Ϥ;obtain⟨⟨j0,j1,j2,j3,j4⟩,j5,j6⟩:=Ϥ;go_simp
    refine jA (i:=1) (v:=.agg #[.int .i64 t,.int .u64 (u:Int)]) rfl kM kM kM kM kM kM (λ_ _ _ h=>h) (Or.inl ⟨by rfl,?_⟩) ϊ ?_
    ·intro w Ϥ;obtain⟨⟨j0,j1,j2,j3,j4⟩,j5,j6⟩:=Ϥ;go_simp
    refine bU (rs:=[2]) kM rQ ?_;refine aQ.cons rfl (λK hK=>?_) aQ.nil;go_simp
    refine Calls.mono (sM.out _) ?_;rintro e w1 ⟨rfl,ώ⟩;have A:Below H.heap.size H w1:=((Below.refl _ _).drew).trans (ώ.mono rQ);refine hK.out _ _ (LX.out _ A) ?_;refine bU (rs:=[3]) kM rQ ?_;refine aQ.cons rfl (λK hK=>?_) aQ.nil;go_simp
    refine Calls.mono (HAD.out _) ?_;rintro e w2 ⟨rfl,ϒ⟩;have D:Below H.heap.size H w2:=A.trans (ϒ.mono A.size);refine hK.out _ _ (LX.out _ D) ?_;have G:=(D.block _ (lt_of_block dK.out)).trans dK.out;have z0:=ak G 0;have z1:=ak G 1;have z2:=ak G 2;have z3:=ak G 3;have z4:=ak G 4;simp at z0 z1 z2 z3 z4;have f0:=aA G 0;have f1:=aA G 1;have f2:=aA G 2;have f3:=aA G 3;have f4:=aA G 4;have U:=ĥ (Yu G (.int .i64 r1) (.int .u64 r2) (.int .u64 r3) (.int .u64 r4) (.int .u64 r5));have HB2:=ĥ D;refine bU (rs:=[4]) kM rQ ?_;refine aQ.last rfl kM (λK hK=>?_) aQ.nil;go_simp
    refine hK.out _ _ ?_;refine dz kM ?_ _;go_wp2;go_roundw;case rel=>
     have Ϗ:Below w.heap.size w H:=by rw[V.out];exact bA.out.alloc Ñ _
     refine⟨k+1,fM,rU,?_,by rw[KG.out];exact U.out,Yv (Ϗ.trans (HB2.out.mono Ϗ.size)) fM _ _ _ _ _⟩;rw[ajQ fM,HB2.out.block _ (by rw[V.out];simp;omega),V.out,Below.heap_alloc _ _ _ fM];exact HH0.out
    case measure=>simp[intOf]<;>omega
  ·have ĝ:k=n:=fM;subst ĝ;have ht:l.take k=l:=take_of_length_le (by have:=HN.out;omega);rw[ht] at j;obtain⟨S,hS⟩:=eB (ofM l);rw[hS] at j;have HS:=ĥ hS;obtain⟨I,J,O,Q,R⟩:=S;simp only at j;have e0:=ak j 0;have e1:=ak j 1;have e2:=ak j 2;have e3:=ak j 3;have e4:=ak j 4;simp at e0 e1 e2 e3 e4;have f0:=aA q 0;have f1:=aA q 1;have f2:=aA q 2;have f3:=aA q 3;have f4:=aA q 4;have g0:=ak q 0;have g1:=ak q 1;have g2:=ak q 2;have g3:=ak q 3;have g4:=ak q 4;simp at g0 g1 g2 g3 g4;have U:=ĥ (Yu q (.int .i64 I) (.int .u64 J) (.int .u64 O) (.int .u64 Q) (.int .u64 R));have bA:=ĥ Z;go_wp2;have y0:=ak U.out 0;have y1:=ak U.out 1;have y2:=ak U.out 2;have y3:=ak U.out 3;have y4:=ak U.out 4;simp at y0 y1 y2 y3 y4;exact bodyPost_ret (v:=.agg #[.int .i64 I,.int .u64 J,.int .u64 O,.int .u64 Q,.int .u64 R]) (by simp[results,results80,go_sem,y0,y1,y2,y3,y4]) rfl ⟨by rw[HS.out];rfl,Yv bA.out (le_refl _) _ _ _ _ _⟩
end Go.Proofs.YtnjmhjdhfaboaaaGreatDoor
namespace iT
def flat(l:List (List UInt8×List (Int×Nat))):List (Int×Nat):=l.flatMap Prod.snd
theorem O1(l:List (List UInt8×List (Int×Nat)))(r:List UInt8×List (Int×Nat)):flat (l ++ [r])=flat l++r.2:=by simp[flat]
theorem abp(l:List (List UInt8×List (Int×Nat)))(k:Nat):(flat (l.take k)).length<=(flat l).length:=by
 have h:flat l=flat (l.take k)++flat (l.drop k):=by
  unfold flat
  rw[<-flatMap_append,take_append_drop]
 rw[h,length_append];omega
theorem SC{l:List (List UInt8×List (Int×Nat))}{p:Int×Nat}(h:p∈flat l):∃r,r∈l/\p∈r.2:=by simpa [flat] using h
theorem adO(l:List (List UInt8×List (Int×Nat)))(r:List UInt8×List (Int×Nat)):ofM (flat (l ++ [r]))=jT (ofM (flat l)) (ofM r.2):=by rw[O1,WS]
end iT
namespace Go.Proofs.YtnjmhjdhfaboaaaGreatDoor
open Go.RowKit aU iT
theorem UJ(w:World)(la:Option Addr)(c:Nat)(rows:List (List UInt8×List (Int×Nat)))(hP:rX w la rows)(hI:∀r,r∈rows->nI r.2)(hn:rows.length<=1000)(hr:∀r,r∈rows->r.2.length<=1000)(hf:(flat rows).length<=1000000):
  Calls prog 50 #[.slice la rows.length c] w λe w'=>e = .returned (qK (ofM (flat rows)))/\Below w.heap.size w w':=by
 have HP:=ĥ hP;have HI:=ĥ hI;have HF:=ĥ (And.intro hf hr);obtain⟨n,Ϝ⟩:=eB rows.length;rw[Ϝ];have hn':n<=1000:=fM;have HN:=ĥ Ϝ;go_enter func50,ntmps50;go_wp2_with fail;go_loopw [5,8] (λ_ i wr=>∃k:Nat,k<=n/\i = .int .i64 k/\wr.heap[w.heap.size]? = some (.cells #[.int .i64 0,.int .u64 0,.int .u64 0,.int .u64 0,.int .u64 0] 109 (0,0))/\wr.heap[w.heap.size+1]? = some (.cells #[.int .i64 (ofM (flat (rows.take k))).c,.int .u64 (ofM (flat (rows.take k))).l,.int .u64 (ofM (flat (rows.take k))).m,.int .u64 (ofM (flat (rows.take k))).t,.int .u64 (ofM (flat (rows.take k))).s] 109 (0,0))/\Below w.heap.size w wr) (λ_ i _=>n-(intOf i).toNat);case atStart=>
  refine⟨0,zero_le _,rfl,?_,?_,((Below.refl _ _).alloc (le_refl _) _).alloc rQ _⟩
  ·rw[Below.heap_alloc _ _ _ rQ];exact heap_alloc_new _ _
  ·have:=heap_alloc_new (w.alloc (.cells #[.int .i64 0,.int .u64 0,.int .u64 0,.int .u64 0,.int .u64 0] 109)) (.cells #[.int .i64 0,.int .u64 0,.int .u64 0,.int .u64 0,.int .u64 0] 109);rw[show (w.alloc (.cells #[.int .i64 0,.int .u64 0,.int .u64 0,.int .u64 0,.int .u64 0] 109)).heap.size=w.heap.size+1 by simp] at this;exact this
 case round=>
  obtain⟨k,hk,rfl,F,q,U⟩:=hrel;by_cases ϗ:k<n
  ·have ù:k<rows.length:=by have:=HN.out;omega
   have ϖ:=take_succ_eq_append_getElem ù;have hIk:In (ofM (flat (rows.take k))):=PL (λp hp=>by
    obtain⟨r,hr,hp⟩:=SC hp;exact HI.out r (mem_of_mem_take hr) p hp)
   have Bo:=HI.out rows[k] (getElem_mem ù);have hIs:=PL Bo;have tT:=HF.out.2 rows[k] (getElem_mem ù);have ã:(flat (rows.take k)).length+rows[k].2.length<=1000000:=by
    have h2:=abp rows (k+1);rw[ϖ,O1,length_append] at h2;have:=HF.out.1;omega
   have Ķ:ofM (flat (rows.take (k+1)))=jT (ofM (flat (rows.take k))) (ofM rows[k].2):=by rw[ϖ,adO]
   rcases HP.out with h|⟨b,o,rfl,hc⟩
   ·rw[h] at ù;simp at ù
   ·obtain⟨c0,A,C,c1,hPk⟩:=hc k ù;have Ú:=World.block_lt_of_cell? w ⟨b,_,none⟩ c0;rw[<-U.cell (p:=⟨b,o+k*2,none⟩) Ú] at c0;rw[<-U.cell (p:=⟨b,o+k*2+1,none⟩) Ú] at c1;have Nt:(k:Int)<n:=fM;have Ý:(0:Int)<=k:=fM;have Ñ:=U.size;have Õ:=lt_of_block q;obtain⟨nm,ì⟩:=bF (encStr rows[k].1:Value);have â:∃s,nm = .string s:=⟨_,ì⟩;rw[<-ì] at c0;have Z:∀j,Calls prog 79 #[qK (ofM (flat (rows.take k))),qK (ofM rows[k].2)] j λe w'=>e = .returned (qK (ofM (flat (rows.take (k+1)))))/\Below j.heap.size j w':=λj=>by
     rw[Ķ];exact NG j _ _ (by rw[Ku,Ku];omega) hIk hIs
    have hOF:∀j,Below wr.heap.size wr j->Calls prog 80 #[.slice A rows[k].2.length C] j λe w'=>e = .returned (qK (ofM rows[k].2))/\Below j.heap.size j w':=λj h=>adN j A C rows[k].2 (hPk.below (U.trans (h.mono U.size))) Bo fM
    generalize rows[k].2.length=m at *;obtain⟨S',hS'⟩:=eB (ofM (flat (rows.take (k+1))));rw[hS'] at Z;generalize ofM (flat (rows.take k))=S at *;generalize ofM rows[k].2=SA at *;obtain⟨I,J,O,Q,R⟩:=S;obtain⟨r1,r2,r3,r4,r5⟩:=S';obtain⟨a1,a2,a3,a4,a5⟩:=SA;have KG:=ĥ hS';have HAD:Hid (∀j,Calls prog 79 #[.agg #[.int .i64 I,.int .u64 J,.int .u64 O,.int .u64 Q,.int .u64 R],.agg #[.int .i64 a1,.int .u64 a2,.int .u64 a3,.int .u64 a4,.int .u64 a5]] j λe w'=>e = .returned (.agg #[.int .i64 r1,.int .u64 r2,.int .u64 r3,.int .u64 r4,.int .u64 r5])/\Below j.heap.size j w'):=Z;simp only at q;have HH0:=ĥ F;have HH1:=ĥ q;have bA:=ĥ U;obtain⟨D,Ā⟩:=bF (wr.alloc (.cells #[nm,.slice A m C] 104));have ă:D.heap.size=wr.heap.size+1:=by rw[Ā];simp
    have Ϗ:Below wr.heap.size wr D:=by rw[Ā];exact (Below.refl _ _).alloc (le_refl _) _
    have FN:Hid (∀j,Below D.heap.size D j->Calls prog 80 #[.slice A m C] j λe w'=>e = .returned (.agg #[.int .i64 a1,.int .u64 a2,.int .u64 a3,.int .u64 a4,.int .u64 a5])/\Below j.heap.size j w'):=λj h=>hOF j (Ϗ.trans (h.mono Ϗ.size))
    have ϓ:D.heap[w.heap.size+1]? = some (.cells #[.int .i64 I,.int .u64 J,.int .u64 O,.int .u64 Q,.int .u64 R] 109 (0,0)):=by rw[Ā,Below.heap_alloc _ _ _ Õ];exact HH1.out
    have Ŏ:D.heap[wr.heap.size]? = some (.cells #[nm,.slice A m C] 104 (0,0)):=by rw[Ā];exact heap_alloc_new _ _
    have LX:Hid (∀z,Below D.heap.size D z->(z.cell? ⟨w.heap.size+1,0,none⟩=some (.int .i64 I)/\z.cell? ⟨w.heap.size+1,1,none⟩=some (.int .u64 J)/\z.cell? ⟨w.heap.size+1,2,none⟩=some (.int .u64 O)/\z.cell? ⟨w.heap.size+1,3,none⟩=some (.int .u64 Q)/\z.cell? ⟨w.heap.size+1,4,none⟩=some (.int .u64 R))/\z.cell? ⟨wr.heap.size,1,none⟩=some (.slice A m C)):=λz hz=>by
     have q:=(hz.block _ fM).trans ϓ;have h2:=(hz.block _ fM).trans Ŏ;exact⟨⟨ak q 0,ak q 1,ak q 2,ak q 3,ak q 4⟩,ak h2 1⟩
    have dK:=ĥ ϓ;clear hc ϖ U F q Ķ hIk hS' Z hOF Bo hIs ã Ϗ ă ϓ Ŏ hPk ì;obtain⟨sn,rfl⟩:=â;go_wp2_with fail;rw[<-Ā];have W:=ĥ Ā;clear Ā;refine eX (S:=λz=>(z.cell? ⟨w.heap.size+1,0,none⟩=some (.int .i64 I)/\z.cell? ⟨w.heap.size+1,1,none⟩=some (.int .u64 J)/\z.cell? ⟨w.heap.size+1,2,none⟩=some (.int .u64 O)/\z.cell? ⟨w.heap.size+1,3,none⟩=some (.int .u64 Q)/\z.cell? ⟨w.heap.size+1,4,none⟩=some (.int .u64 R))/\z.cell? ⟨wr.heap.size,1,none⟩=some (.slice A m C)) kM 5 (LX.out _ ((Below.refl _ _).drew)) (λϊ=>?_);refine jA (i:=0) (v:=.agg #[.int .i64 I,.int .u64 J,.int .u64 O,.int .u64 Q,.int .u64 R]) rfl kM kM kM kM kM kM (λ_ _ _ h=>h) (Or.inl ⟨by rfl,?_⟩) ϊ ?_
    ·intro w Ϥ;obtain⟨⟨j0,j1,j2,j3,j4⟩,j5⟩:=Ϥ;go_simp
    refine jZ (i:=1) (v:=.pointer (some ⟨wr.heap.size,1,none⟩)) rfl kM kM kM kM (λ_ _ _ h=>h) (Or.inl ⟨by rfl,?_⟩) (λ_=>ϊ) ?_
    ·intro w _;go_simp
    refine jA (i:=2) (v:=.slice A m C) rfl kM kM kM kM kM kM (λ_ _ _ h=>h) (Or.inl ⟨by rfl,?_⟩) ϊ ?_
    ·intro w Ϥ;obtain⟨⟨j0,j1,j2,j3,j4⟩,j5⟩:=Ϥ;go_simp
    refine bU (rs:=[3]) kM rQ ?_;refine aQ.cons rfl (λK hK=>?_) aQ.nil;go_simp
    refine Calls.mono (FN.out _ ((Below.refl _ _).drew)) ?_;rintro e w1 ⟨rfl,ϕ⟩;have Y:Hid (Below D.heap.size D w1):=((Below.refl _ _).drew).trans (ϕ.mono rQ);refine hK.out _ _ (LX.out _ Y.out) ?_;refine bU (rs:=[4]) kM rQ ?_;refine aQ.cons rfl (λK hK=>?_) aQ.nil;go_simp
    refine Calls.mono (HAD.out _) ?_;rintro e w2 ⟨rfl,Ë⟩;have H:Hid (Below D.heap.size D w2):=Y.out.trans (Ë.mono Y.out.size);refine hK.out _ _ (LX.out _ H.out) ?_;have G:=(H.out.block _ (lt_of_block dK.out)).trans dK.out;have z0:=ak G 0;have z1:=ak G 1;have z2:=ak G 2;have z3:=ak G 3;have z4:=ak G 4;simp at z0 z1 z2 z3 z4;have f0:=aA G 0;have f1:=aA G 1;have f2:=aA G 2;have f3:=aA G 3;have f4:=aA G 4;have V:=ĥ (Yu G (.int .i64 r1) (.int .u64 r2) (.int .u64 r3) (.int .u64 r4) (.int .u64 r5));refine bU (rs:=[5]) kM rQ ?_;refine aQ.last rfl kM (λK hK=>?_) aQ.nil;go_simp
    refine hK.out _ _ ?_;refine dz kM ?_ _;go_wp2;go_roundw;case rel=>
     have Ϗ:Below w.heap.size w D:=by rw[W.out];exact bA.out.alloc Ñ _
     refine⟨k+1,fM,rU,?_,by rw[KG.out];exact V.out,Yv (Ϗ.trans (H.out.mono Ϗ.size)) fM _ _ _ _ _⟩;rw[ajQ fM,H.out.block _ (by rw[W.out];simp;omega),W.out,Below.heap_alloc _ _ _ fM];exact HH0.out
    case measure=>simp[intOf]<;>omega
  ·have ĝ:k=n:=fM;subst ĝ;have ht:rows.take k=rows:=take_of_length_le (by have:=HN.out;omega);rw[ht] at q;obtain⟨S,hS⟩:=eB (ofM (flat rows));rw[hS] at q;have HS:=ĥ hS;obtain⟨I,J,O,Q,R⟩:=S;simp only at q;have e0:=ak q 0;have e1:=ak q 1;have e2:=ak q 2;have e3:=ak q 3;have e4:=ak q 4;simp at e0 e1 e2 e3 e4;have f0:=aA F 0;have f1:=aA F 1;have f2:=aA F 2;have f3:=aA F 3;have f4:=aA F 4;have g0:=ak F 0;have g1:=ak F 1;have g2:=ak F 2;have g3:=ak F 3;have g4:=ak F 4;simp at g0 g1 g2 g3 g4;have V:=ĥ (Yu F (.int .i64 I) (.int .u64 J) (.int .u64 O) (.int .u64 Q) (.int .u64 R));have bA:=ĥ U;go_wp2;have y0:=ak V.out 0;have y1:=ak V.out 1;have y2:=ak V.out 2;have y3:=ak V.out 3;have y4:=ak V.out 4;simp at y0 y1 y2 y3 y4;exact bodyPost_ret (v:=.agg #[.int .i64 I,.int .u64 J,.int .u64 O,.int .u64 Q,.int .u64 R]) (by simp[results,results50,go_sem,y0,y1,y2,y3,y4]) rfl ⟨by rw[HS.out];rfl,Yv bA.out (le_refl _) _ _ _ _ _⟩
