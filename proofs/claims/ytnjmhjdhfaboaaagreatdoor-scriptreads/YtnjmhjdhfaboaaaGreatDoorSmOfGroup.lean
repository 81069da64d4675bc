import Derived.Test.YtnjmhjdhfaboaaaGreatDoorPtMergeGroup
import Derived.Test.YtnjmhjdhfaboaaaGreatDoorPutGroup
import Derived.Test.YtnjmhjdhfaboaaaGreatDoorRegStoreGroup
set_option maxRecDepth 1000000
set_option maxHeartbeats 2000000
namespace Go.Proofs.YtnjmhjdhfaboaaaGreatDoor
open Go.RowKit aR gB
theorem Ζ{p:Prop}(h:p):Go.RowKit.Hid p:=h
theorem XY{w:World}{b:Nat}{p q r s t:Value}{T:TypeId}{f:Nat×Nat}(h:w.heap[b]? = some (.cells #[p,q,r,s,t] T f))(D A o s' z:Value):
  (((((w.setCell ⟨b,0,none⟩ D).setCell ⟨b,1,none⟩ A).setCell ⟨b,2,none⟩ o).setCell ⟨b,3,none⟩ s').setCell ⟨b,4,none⟩ z).heap[b]? = some (.cells #[D,A,o,s',z] T f):=
 heap_set (heap_set (heap_set (heap_set (heap_set h 0 D) 1 A) 2 o) 3 s') 4 z
theorem XZ{w z:World}{n b:Nat}(h:Below n w z)(o:n<=b)(p q r s t:Value):Below n w (((((z.setCell ⟨b,0,none⟩ p).setCell ⟨b,1,none⟩ q).setCell ⟨b,2,none⟩ r).setCell ⟨b,3,none⟩ s).setCell ⟨b,4,none⟩ t):=
 ((((h.setCell (p:=⟨b,0,none⟩) o _).setCell (p:=⟨b,1,none⟩) o _).setCell (p:=⟨b,2,none⟩) o _).setCell (p:=⟨b,3,none⟩) o _).setCell (p:=⟨b,4,none⟩) o _
theorem ajr{z:World}{b c:Nat}(h:c≠b)(p q r s t:Value):(((((z.setCell ⟨b,0,none⟩ p).setCell ⟨b,1,none⟩ q).setCell ⟨b,2,none⟩ r).setCell ⟨b,3,none⟩ s).setCell ⟨b,4,none⟩ t).heap[c]? = z.heap[c]?:=by
 rw[Below.heap_setCell _ _ _ _ (by exact h),Below.heap_setCell _ _ _ _ (by exact h),Below.heap_setCell _ _ _ _ (by exact h),Below.heap_setCell _ _ _ _ (by exact h),Below.heap_setCell _ _ _ _ (by exact h)]
theorem adk(w:World)(la:Option Addr)(c:Nat)(l:List (Int×Nat))(hP:l5 w la l)(hI:ni l)(hn:l.length<=1000):
  Calls Tryz.prog 80 #[.slice la l.length c] w λe w'=>e = .returned (qG (ofM l))/\Below w.heap.size w w':=by
 have HP:=Ζ hP;have HI:=Ζ hI;obtain⟨n,ϛ⟩:=eD l.length;rw[ϛ];have hn':n<=1000:=iK;have HN:=Ζ ϛ;go_enter Tryz.func80,Tryz.ntmps80;go_wp2_with fail;go_loopw [5,8] (λ_ i wr=>∃k:Nat,k<=n/\i = .int .i64 k/\wr.heap[w.heap.size]? = some (.cells #[.int .i64 0,.int .u64 0,.int .u64 0,.int .u64 0,.int .u64 0] 109 (0,0))/\wr.heap[w.heap.size+1]? = some (.cells #[.int .i64 (ofM (l.take k)).c,.int .u64 (ofM (l.take k)).l,.int .u64 (ofM (l.take k)).m,.int .u64 (ofM (l.take k)).t,.int .u64 (ofM (l.take k)).s] 109 (0,0))/\Below w.heap.size w wr) (λ_ i _=>n-(intOf i).toNat);case atStart=>
  refine⟨0,Nat.zero_le _,rfl,?_,?_,((Below.refl _ _).alloc (Nat.le_refl _) _).alloc vI _⟩
  ·rw[Below.heap_alloc _ _ _ vI];exact heap_alloc_new _ _
  ·have:=heap_alloc_new (w.alloc (.cells #[.int .i64 0,.int .u64 0,.int .u64 0,.int .u64 0,.int .u64 0] 109)) (.cells #[.int .i64 0,.int .u64 0,.int .u64 0,.int .u64 0,.int .u64 0] 109);rw[show (w.alloc (.cells #[.int .i64 0,.int .u64 0,.int .u64 0,.int .u64 0,.int .u64 0] 109)).heap.size=w.heap.size+1 by simp] at this;exact this
 case round=>
  obtain⟨k,hk,rfl,A,q,Ϙ⟩:=hrel;by_cases ϗ:k<n
  ·have õ:k<l.length:=by have:=HN.out;omega
   have ϖ:=List.take_succ_eq_append_getElem õ;have hIk:In (ofM (l.take k)):=PD (λp hp=>HI.out p (List.mem_of_mem_take hp));have Bp:=(HI.out l[k] (List.getElem_mem õ)).2.2;have hck:(ofM (l.take k)).c=k:=by rw[Km,List.length_take];omega
   have Į:ofM (l.take (k+1))=jR (ofM (l.take k)) (sV l[k].2):=by rw[ϖ,Ql]
   rcases HP.out with h|⟨b,o,rfl,hc⟩
   ·rw[h] at õ;simp at õ
   ·obtain⟨c0,c1⟩:=hc k õ;have Ô:=World.block_lt_of_cell? w ⟨b,_,none⟩ c0;rw[<-Ϙ.cell (p:=⟨b,o+k*2,none⟩) Ô] at c0;rw[<-Ϙ.cell (p:=⟨b,o+k*2+1,none⟩) Ô] at c1;generalize l[k]=p at *;obtain⟨t,u⟩:=p;simp only at c0 c1 Bp Į;have Ni:(k:Int)<n:=iK;have ä:(0:Int)<=k:=iK;have Ï:=Ϙ.size;have Ö:=lt_of_block q;have RB:Hid (∀H,Calls Tryz.prog 79 #[qG (ofM (l.take k)),qG (sV u)] H λe w'=>e = .returned (qG (ofM (l.take (k+1))))/\Below H.heap.size H w'):=λH=>by
     rw[Į];exact Ns H _ _ (by rw[hck];simp[sV];omega) hIk ⟨Bp,Bp,Bp,Bp⟩
    have ajs:=Ζ (λH=>YR H t u);obtain⟨S',Y⟩:=eD (ofM (l.take (k+1)));rw[Y] at RB;generalize ofM (l.take k)=S at *;obtain⟨Q,U,J,O,R⟩:=S;obtain⟨r1,r2,r3,r4,r5⟩:=S';have Kz:=Ζ Y;have HAD:Hid (∀H,Calls Tryz.prog 79 #[.agg #[.int .i64 Q,.int .u64 U,.int .u64 J,.int .u64 O,.int .u64 R],.agg #[.int .i64 1,.int .u64 u,.int .u64 u,.int .u64 u,.int .u64 u]] H λe w'=>e = .returned (.agg #[.int .i64 r1,.int .u64 r2,.int .u64 r3,.int .u64 r4,.int .u64 r5])/\Below H.heap.size H w'):=RB;have su:=Ζ ajs;clear RB ajs;simp only at q;have e0:=ak q 0;have e1:=ak q 1;have e2:=ak q 2;have e3:=ak q 3;have e4:=ak q 4;simp at e0 e1 e2 e3 e4;have HH0:=Ζ A;have HH1:=Ζ q;have bq:=Ζ Ϙ;clear hc ϖ Ϙ A q Į hIk hck Y;obtain⟨I,Z⟩:=dM (wr.alloc (.cells #[.int .i64 t,.int .u64 (u:Int)] 93));have þ:I.heap.size=wr.heap.size+1:=by rw[Z];simp
    have ϓ:I.heap[w.heap.size+1]? = some (.cells #[.int .i64 Q,.int .u64 U,.int .u64 J,.int .u64 O,.int .u64 R] 109 (0,0)):=by rw[Z,Below.heap_alloc _ _ _ Ö];exact HH1.out
    have Ł:I.heap[wr.heap.size]? = some (.cells #[.int .i64 t,.int .u64 (u:Int)] 93 (0,0)):=by rw[Z];exact heap_alloc_new _ _
    have LK:Hid (∀z,Below I.heap.size I z->(z.cell? ⟨w.heap.size+1,0,none⟩=some (.int .i64 Q)/\z.cell? ⟨w.heap.size+1,1,none⟩=some (.int .u64 U)/\z.cell? ⟨w.heap.size+1,2,none⟩=some (.int .u64 J)/\z.cell? ⟨w.heap.size+1,3,none⟩=some (.int .u64 O)/\z.cell? ⟨w.heap.size+1,4,none⟩=some (.int .u64 R))/\z.cell? ⟨wr.heap.size,0,none⟩=some (.int .i64 t)/\z.cell? ⟨wr.heap.size,1,none⟩=some (.int .u64 (u:Int))):=λz hz=>by
     have q:=(hz.block _ iK).trans ϓ;have h2:=(hz.block _ iK).trans Ł;exact⟨⟨ak q 0,ak q 1,ak q 2,ak q 3,ak q 4⟩,ak h2 0,ak h2 1⟩
    have dK:=Ζ ϓ;clear þ ϓ Ł;go_wp2_with fail;rw[<-Z];have V:=Ζ Z;clear Z;refine eU (S:=λz=>(z.cell? ⟨w.heap.size+1,0,none⟩=some (.int .i64 Q)/\z.cell? ⟨w.heap.size+1,1,none⟩=some (.int .u64 U)/\z.cell? ⟨w.heap.size+1,2,none⟩=some (.int .u64 J)/\z.cell? ⟨w.heap.size+1,3,none⟩=some (.int .u64 O)/\z.cell? ⟨w.heap.size+1,4,none⟩=some (.int .u64 R))/\z.cell? ⟨wr.heap.size,0,none⟩=some (.int .i64 t)/\z.cell? ⟨wr.heap.size,1,none⟩=some (.int .u64 (u:Int))) mU 4 (LK.out _ ((Below.refl _ _).drew)) (λϊ=>?_);refine jq (i:=0) (v:=.agg #[.int .i64 Q,.int .u64 U,.int .u64 J,.int .u64 O,.int .u64 R]) rfl mU mU mU mU mU mU (λ_ _ _ h=>h) (Or.inl ⟨by rfl,?_⟩) ϊ ?_
    ·intro w ϡ;obtain⟨⟨j0,j1,j2,j3,j4⟩,j5,j6⟩:=ϡ;go_simp
    refine jq (i:=1) (v:=.agg #[.int .i64 t,.int .u64 (u:Int)]) rfl mU mU mU mU mU mU (λ_ _ _ h=>h) (Or.inl ⟨by rfl,?_⟩) ϊ ?_
    ·intro w ϡ;obtain⟨⟨j0,j1,j2,j3,j4⟩,j5,j6⟩:=ϡ;go_simp
    refine bU (rs:=[2]) mU vI ?_;refine aM.cons rfl (λK hK=>?_) aM.nil;go_simp
    refine Calls.mono (su.out _) ?_;rintro e w1 ⟨rfl,ώ⟩;have G:Below I.heap.size I w1:=((Below.refl _ _).drew).trans (ώ.mono vI);refine hK.out _ _ (LK.out _ G) ?_;refine bU (rs:=[3]) mU vI ?_;refine aM.cons rfl (λK hK=>?_) aM.nil;go_simp
    refine Calls.mono (HAD.out _) ?_;rintro e w2 ⟨rfl,ϒ⟩;have F:Below I.heap.size I w2:=G.trans (ϒ.mono G.size);refine hK.out _ _ (LK.out _ F) ?_;have D:=(F.block _ (lt_of_block dK.out)).trans dK.out;have z0:=ak D 0;have z1:=ak D 1;have z2:=ak D 2;have z3:=ak D 3;have z4:=ak D 4;simp at z0 z1 z2 z3 z4;have f0:=aA D 0;have f1:=aA D 1;have f2:=aA D 2;have f3:=aA D 3;have f4:=aA D 4;have W:=Ζ (XY D (.int .i64 r1) (.int .u64 r2) (.int .u64 r3) (.int .u64 r4) (.int .u64 r5));have HB2:=Ζ F;refine bU (rs:=[4]) mU vI ?_;refine aM.last rfl mU (λK hK=>?_) aM.nil;go_simp
    refine hK.out _ _ ?_;refine dA mU ?_ _;go_wp2;go_roundw;case rel=>
     have Ϗ:Below w.heap.size w I:=by rw[V.out];exact bq.out.alloc Ï _
     refine⟨k+1,iK,by go_num,?_,by rw[Kz.out];exact W.out,XZ (Ϗ.trans (HB2.out.mono Ϗ.size)) iK _ _ _ _ _⟩;rw[ajr iK,HB2.out.block _ (by rw[V.out];simp;omega),V.out,Below.heap_alloc _ _ _ iK];exact HH0.out
    case measure=>simp[intOf]<;>omega
  ·have Ģ:k=n:=iK;subst Ģ;have ht:l.take k=l:=List.take_of_length_le (by have:=HN.out;omega);rw[ht] at q;obtain⟨S,hS⟩:=eD (ofM l);rw[hS] at q;have HS:=Ζ hS;obtain⟨Q,U,J,O,R⟩:=S;simp only at q;have e0:=ak q 0;have e1:=ak q 1;have e2:=ak q 2;have e3:=ak q 3;have e4:=ak q 4;simp at e0 e1 e2 e3 e4;have f0:=aA A 0;have f1:=aA A 1;have f2:=aA A 2;have f3:=aA A 3;have f4:=aA A 4;have g0:=ak A 0;have g1:=ak A 1;have g2:=ak A 2;have g3:=ak A 3;have g4:=ak A 4;simp at g0 g1 g2 g3 g4;have W:=Ζ (XY A (.int .i64 Q) (.int .u64 U) (.int .u64 J) (.int .u64 O) (.int .u64 R));have bq:=Ζ Ϙ;go_wp2;have y0:=ak W.out 0;have y1:=ak W.out 1;have y2:=ak W.out 2;have y3:=ak W.out 3;have y4:=ak W.out 4;simp at y0 y1 y2 y3 y4;exact bodyPost_ret (v:=.agg #[.int .i64 Q,.int .u64 U,.int .u64 J,.int .u64 O,.int .u64 R]) (by simp[results,Tryz.results80,go_sem,y0,y1,y2,y3,y4]) rfl ⟨by rw[HS.out];rfl,XZ bq.out (Nat.le_refl _) _ _ _ _ _⟩
end Go.Proofs.YtnjmhjdhfaboaaaGreatDoor
