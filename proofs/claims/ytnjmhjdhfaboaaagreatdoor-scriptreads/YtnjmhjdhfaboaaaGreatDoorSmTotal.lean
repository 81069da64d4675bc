import Derived.Test.YtnjmhjdhfaboaaaGreatDoorSmOfGroup
import Derived.Test.YtnjmhjdhfaboaaaGreatDoorRowsDef
set_option maxRecDepth 1000000
set_option maxHeartbeats 2000000
open List
namespace gB
def flat(l:List (List UInt8×List (Int×Nat))):List (Int×Nat):=l.flatMap Prod.snd
theorem OQ(l:List (List UInt8×List (Int×Nat)))(r:List UInt8×List (Int×Nat)):flat (l ++ [r])=flat l++r.2:=by simp[flat]
theorem aaM(l:List (List UInt8×List (Int×Nat)))(k:Nat):(flat (l.take k)).length<=(flat l).length:=by
 have h:flat l=flat (l.take k)++flat (l.drop k):=by
  unfold flat
  rw[<-flatMap_append,take_append_drop]
 rw[h,length_append];omega
theorem Sc{l:List (List UInt8×List (Int×Nat))}{p:Int×Nat}(h:p∈flat l):∃r,r∈l/\p∈r.2:=by simpa [flat] using h
theorem adl(l:List (List UInt8×List (Int×Nat)))(r:List UInt8×List (Int×Nat)):ofM (flat (l ++ [r]))=jR (ofM (flat l)) (ofM r.2):=by rw[OQ,Wj]
end gB
namespace Go.Proofs.YtnjmhjdhfaboaaaGreatDoor
open Go.RowKit aR gB
theorem aeE{p:Prop}(h:p):Go.RowKit.Hid p:=h
theorem Ug(w:World)(la:Option Addr)(c:Nat)(rows:List (List UInt8×List (Int×Nat)))(hP:rW w la rows)(hI:∀r,r∈rows->ni r.2)(hn:rows.length<=1000)(hr:∀r,r∈rows->r.2.length<=1000)(hf:(flat rows).length<=1000000):
  Calls Tryz.prog 50 #[.slice la rows.length c] w λe w'=>e = .returned (qG (ofM (flat rows)))/\Below w.heap.size w w':=by
 have HP:=aeE hP;have HI:=aeE hI;have HF:=aeE (And.intro hf hr);obtain⟨n,ϛ⟩:=eD rows.length;rw[ϛ];have hn':n<=1000:=iK;have HN:=aeE ϛ;go_enter Tryz.func50,Tryz.ntmps50;go_wp2_with fail;go_loopw [5,8] (λ_ i wr=>∃k:Nat,k<=n/\i = .int .i64 k/\wr.heap[w.heap.size]? = some (.cells #[.int .i64 0,.int .u64 0,.int .u64 0,.int .u64 0,.int .u64 0] 109 (0,0))/\wr.heap[w.heap.size+1]? = some (.cells #[.int .i64 (ofM (flat (rows.take k))).c,.int .u64 (ofM (flat (rows.take k))).l,.int .u64 (ofM (flat (rows.take k))).m,.int .u64 (ofM (flat (rows.take k))).t,.int .u64 (ofM (flat (rows.take k))).s] 109 (0,0))/\Below w.heap.size w wr) (λ_ i _=>n-(intOf i).toNat);case atStart=>
  refine⟨0,Nat.zero_le _,rfl,?_,?_,((Below.refl _ _).alloc (Nat.le_refl _) _).alloc vI _⟩
  ·rw[Below.heap_alloc _ _ _ vI];exact heap_alloc_new _ _
  ·have:=heap_alloc_new (w.alloc (.cells #[.int .i64 0,.int .u64 0,.int .u64 0,.int .u64 0,.int .u64 0] 109)) (.cells #[.int .i64 0,.int .u64 0,.int .u64 0,.int .u64 0,.int .u64 0] 109);rw[show (w.alloc (.cells #[.int .i64 0,.int .u64 0,.int .u64 0,.int .u64 0,.int .u64 0] 109)).heap.size=w.heap.size+1 by simp] at this;exact this
 case round=>
  obtain⟨k,hk,rfl,G,D,Q⟩:=hrel;by_cases ϗ:k<n
  ·have õ:k<rows.length:=by have:=HN.out;omega
   have ϖ:=take_succ_eq_append_getElem õ;have hIk:In (ofM (flat (rows.take k))):=PD (λp hp=>by
    obtain⟨r,hr,hp⟩:=Sc hp;exact HI.out r (mem_of_mem_take hr) p hp)
   have Bp:=HI.out rows[k] (getElem_mem õ);have hIs:=PD Bp;have tL:=HF.out.2 rows[k] (getElem_mem õ);have ó:(flat (rows.take k)).length+rows[k].2.length<=1000000:=by
    have h2:=aaM rows (k+1);rw[ϖ,OQ,length_append] at h2;have:=HF.out.1;omega
   have Į:ofM (flat (rows.take (k+1)))=jR (ofM (flat (rows.take k))) (ofM rows[k].2):=by rw[ϖ,adl]
   rcases HP.out with h|⟨b,o,rfl,hc⟩
   ·rw[h] at õ;simp at õ
   ·obtain⟨c0,A,C,c1,hPk⟩:=hc k õ;have Ô:=World.block_lt_of_cell? w ⟨b,_,none⟩ c0;rw[<-Q.cell (p:=⟨b,o+k*2,none⟩) Ô] at c0;rw[<-Q.cell (p:=⟨b,o+k*2+1,none⟩) Ô] at c1;have Ni:(k:Int)<n:=iK;have ä:(0:Int)<=k:=iK;have Ï:=Q.size;have Ö:=lt_of_block D;obtain⟨nm,é⟩:=dM (encStr rows[k].1:Value);have á:∃s,nm = .string s:=⟨_,é⟩;rw[<-é] at c0;have adn:∀q,Calls Tryz.prog 79 #[qG (ofM (flat (rows.take k))),qG (ofM rows[k].2)] q λe w'=>e = .returned (qG (ofM (flat (rows.take (k+1)))))/\Below q.heap.size q w':=λq=>by
     rw[Į];exact Ns q _ _ (by rw[Km,Km];omega) hIk hIs
    have hOF:∀q,Below wr.heap.size wr q->Calls Tryz.prog 80 #[.slice A rows[k].2.length C] q λe w'=>e = .returned (qG (ofM rows[k].2))/\Below q.heap.size q w':=λq h=>adk q A C rows[k].2 (hPk.below (Q.trans (h.mono Q.size))) Bp iK
    generalize rows[k].2.length=m at *;obtain⟨S',hS'⟩:=eD (ofM (flat (rows.take (k+1))));rw[hS'] at adn;generalize ofM (flat (rows.take k))=S at *;generalize ofM rows[k].2=SA at *;obtain⟨R,V,J,O,U⟩:=S;obtain⟨r1,r2,r3,r4,r5⟩:=S';obtain⟨a1,a2,a3,a4,a5⟩:=SA;have Kz:=aeE hS';have HAD:Hid (∀q,Calls Tryz.prog 79 #[.agg #[.int .i64 R,.int .u64 V,.int .u64 J,.int .u64 O,.int .u64 U],.agg #[.int .i64 a1,.int .u64 a2,.int .u64 a3,.int .u64 a4,.int .u64 a5]] q λe w'=>e = .returned (.agg #[.int .i64 r1,.int .u64 r2,.int .u64 r3,.int .u64 r4,.int .u64 r5])/\Below q.heap.size q w'):=adn;simp only at D;have HH0:=aeE G;have HH1:=aeE D;have bq:=aeE Q;obtain⟨F,Z⟩:=dM (wr.alloc (.cells #[nm,.slice A m C] 104));have þ:F.heap.size=wr.heap.size+1:=by rw[Z];simp
    have Ϗ:Below wr.heap.size wr F:=by rw[Z];exact (Below.refl _ _).alloc (Nat.le_refl _) _
    have FL:Hid (∀q,Below F.heap.size F q->Calls Tryz.prog 80 #[.slice A m C] q λe w'=>e = .returned (.agg #[.int .i64 a1,.int .u64 a2,.int .u64 a3,.int .u64 a4,.int .u64 a5])/\Below q.heap.size q w'):=λq h=>hOF q (Ϗ.trans (h.mono Ϗ.size))
    have ϓ:F.heap[w.heap.size+1]? = some (.cells #[.int .i64 R,.int .u64 V,.int .u64 J,.int .u64 O,.int .u64 U] 109 (0,0)):=by rw[Z,Below.heap_alloc _ _ _ Ö];exact HH1.out
    have Ł:F.heap[wr.heap.size]? = some (.cells #[nm,.slice A m C] 104 (0,0)):=by rw[Z];exact heap_alloc_new _ _
    have LK:Hid (∀z,Below F.heap.size F z->(z.cell? ⟨w.heap.size+1,0,none⟩=some (.int .i64 R)/\z.cell? ⟨w.heap.size+1,1,none⟩=some (.int .u64 V)/\z.cell? ⟨w.heap.size+1,2,none⟩=some (.int .u64 J)/\z.cell? ⟨w.heap.size+1,3,none⟩=some (.int .u64 O)/\z.cell? ⟨w.heap.size+1,4,none⟩=some (.int .u64 U))/\z.cell? ⟨wr.heap.size,1,none⟩=some (.slice A m C)):=λz hz=>by
     have D:=(hz.block _ iK).trans ϓ;have h2:=(hz.block _ iK).trans Ł;exact⟨⟨ak D 0,ak D 1,ak D 2,ak D 3,ak D 4⟩,ak h2 1⟩
    have dK:=aeE ϓ;clear hc ϖ Q G D Į hIk hS' adn hOF Bp hIs ó Ϗ þ ϓ Ł hPk é;obtain⟨sn,rfl⟩:=á;go_wp2_with fail;rw[<-Z];have W:=aeE Z;clear Z;refine eU (S:=λz=>(z.cell? ⟨w.heap.size+1,0,none⟩=some (.int .i64 R)/\z.cell? ⟨w.heap.size+1,1,none⟩=some (.int .u64 V)/\z.cell? ⟨w.heap.size+1,2,none⟩=some (.int .u64 J)/\z.cell? ⟨w.heap.size+1,3,none⟩=some (.int .u64 O)/\z.cell? ⟨w.heap.size+1,4,none⟩=some (.int .u64 U))/\z.cell? ⟨wr.heap.size,1,none⟩=some (.slice A m C)) mU 5 (LK.out _ ((Below.refl _ _).drew)) (λϊ=>?_);refine jq (i:=0) (v:=.agg #[.int .i64 R,.int .u64 V,.int .u64 J,.int .u64 O,.int .u64 U]) rfl mU mU mU mU mU mU (λ_ _ _ h=>h) (Or.inl ⟨by rfl,?_⟩) ϊ ?_
    ·intro w ϡ;obtain⟨⟨j0,j1,j2,j3,j4⟩,j5⟩:=ϡ;go_simp
    refine jY (i:=1) (v:=.pointer (some ⟨wr.heap.size,1,none⟩)) rfl mU mU mU mU (λ_ _ _ h=>h) (Or.inl ⟨by rfl,?_⟩) (λ_=>ϊ) ?_
    ·intro w _;go_simp
    refine jq (i:=2) (v:=.slice A m C) rfl mU mU mU mU mU mU (λ_ _ _ h=>h) (Or.inl ⟨by rfl,?_⟩) ϊ ?_
    ·intro w ϡ;obtain⟨⟨j0,j1,j2,j3,j4⟩,j5⟩:=ϡ;go_simp
    refine bU (rs:=[3]) mU vI ?_;refine aM.cons rfl (λK hK=>?_) aM.nil;go_simp
    refine Calls.mono (FL.out _ ((Below.refl _ _).drew)) ?_;rintro e w1 ⟨rfl,ϙ⟩;have Hw1:Hid (Below F.heap.size F w1):=((Below.refl _ _).drew).trans (ϙ.mono vI);refine hK.out _ _ (LK.out _ Hw1.out) ?_;refine bU (rs:=[4]) mU vI ?_;refine aM.cons rfl (λK hK=>?_) aM.nil;go_simp
    refine Calls.mono (HAD.out _) ?_;rintro e w2 ⟨rfl,Æ⟩;have I:Hid (Below F.heap.size F w2):=Hw1.out.trans (Æ.mono Hw1.out.size);refine hK.out _ _ (LK.out _ I.out) ?_;have H:=(I.out.block _ (lt_of_block dK.out)).trans dK.out;have z0:=ak H 0;have z1:=ak H 1;have z2:=ak H 2;have z3:=ak H 3;have z4:=ak H 4;simp at z0 z1 z2 z3 z4;have f0:=aA H 0;have f1:=aA H 1;have f2:=aA H 2;have f3:=aA H 3;have f4:=aA H 4;have Y:=aeE (XY H (.int .i64 r1) (.int .u64 r2) (.int .u64 r3) (.int .u64 r4) (.int .u64 r5));refine bU (rs:=[5]) mU vI ?_;refine aM.last rfl mU (λK hK=>?_) aM.nil;go_simp
    refine hK.out _ _ ?_;refine dA mU ?_ _;go_wp2;go_roundw;case rel=>
     have Ϗ:Below w.heap.size w F:=by rw[W.out];exact bq.out.alloc Ï _
     refine⟨k+1,iK,by go_num,?_,by rw[Kz.out];exact Y.out,XZ (Ϗ.trans (I.out.mono Ϗ.size)) iK _ _ _ _ _⟩;rw[ajr iK,I.out.block _ (by rw[W.out];simp;omega),W.out,Below.heap_alloc _ _ _ iK];exact HH0.out
    case measure=>simp[intOf]<;>omega
  ·have Ģ:k=n:=iK;subst Ģ;have ht:rows.take k=rows:=take_of_length_le (by have:=HN.out;omega);rw[ht] at D;obtain⟨S,hS⟩:=eD (ofM (flat rows));rw[hS] at D;have HS:=aeE hS;obtain⟨R,V,J,O,U⟩:=S;simp only at D;have e0:=ak D 0;have e1:=ak D 1;have e2:=ak D 2;have e3:=ak D 3;have e4:=ak D 4;simp at e0 e1 e2 e3 e4;have f0:=aA G 0;have f1:=aA G 1;have f2:=aA G 2;have f3:=aA G 3;have f4:=aA G 4;have g0:=ak G 0;have g1:=ak G 1;have g2:=ak G 2;have g3:=ak G 3;have g4:=ak G 4;simp at g0 g1 g2 g3 g4;have Y:=aeE (XY G (.int .i64 R) (.int .u64 V) (.int .u64 J) (.int .u64 O) (.int .u64 U));have bq:=aeE Q;go_wp2;have y0:=ak Y.out 0;have y1:=ak Y.out 1;have y2:=ak Y.out 2;have y3:=ak Y.out 3;have y4:=ak Y.out 4;simp at y0 y1 y2 y3 y4;exact bodyPost_ret (v:=.agg #[.int .i64 R,.int .u64 V,.int .u64 J,.int .u64 O,.int .u64 U]) (by simp[results,Tryz.results50,go_sem,y0,y1,y2,y3,y4]) rfl ⟨by rw[HS.out];rfl,XZ bq.out (Nat.le_refl _) _ _ _ _ _⟩
end Go.Proofs.YtnjmhjdhfaboaaaGreatDoor
