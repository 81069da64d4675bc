import Derived.Test.YtcemkhalbjhdkaaGreatDoorHeadAtGroup
import Derived.Test.YtcemkhalbjhdkaaGreatDoorJoinMath
namespace Go.Proofs.YtcemkhalbjhdkaaGreatDoor
open Go.RowKit Go.Maps jU bD bS
end Go.Proofs.YtcemkhalbjhdkaaGreatDoor
namespace Go.Proofs.YtcemkhalbjhdkaaGreatDoor
open bS ou
theorem Km:∀ (a b:List Rw),Up a->Up b->∀ r,r∈aK a b->r∈a\/r∈b\/∃ p q,p∈a/\q∈b/\p.1=q.1/\r=(p.1,p.2++q.2):=by
 intro a b ha hb;rw[<-qz b a ha hb];have key:∀ (l S:List Rw),Up S->(∀ r,r∈S->r∈a\/r∈b\/∃ p q,p∈a/\q∈b/\p.1=q.1/\r=(p.1,p.2++q.2))->(∀ r,r∈l->r∈b)->Up l->(∀ r q,r∈S->q∈l->r.1=q.1->r∈a)->∀ r,r∈fQ S l->r∈a\/r∈b\/∃ p q,p∈a/\q∈b/\p.1=q.1/\r=(p.1,p.2++q.2):=by
  intro l;induction l with
  | nil=>exact fun S _ h _ _ _=>h
  | cons x l ih=>
   intro S hS h hl hu hx;obtain⟨h1,h2⟩:=List.pairwise_cons.1 hu;refine ih (jI S x) (vo hS) (fun r hr=>?_) (fun r hr=>hl r (List.mem_cons_of_mem _ hr)) h2 (fun r q hr hq e=>?_)
   ·rcases (jX hS).1 hr with⟨hr',_⟩|⟨p,hp,hpk,rfl⟩|⟨_,rfl⟩
    ·exact h r hr'
    ·exact .inr (.inr ⟨p,x,hx p x hp (List.mem_cons_self ..) hpk,hl x (List.mem_cons_self ..),hpk,rfl⟩)
    ·exact .inr (.inl (hl r (List.mem_cons_self ..)))
   ·rcases (jX hS).1 hr with⟨hr',_⟩|⟨p,hp,hpk,rfl⟩|⟨_,rfl⟩
    ·exact hx r q hr' (List.mem_cons_of_mem _ hq) e
    ·have hlt:=h1 q hq;rw[<-hpk] at hlt;exact absurd (e ▸ hlt) (List.lt_irrefl _)
    ·exact absurd (e ▸ h1 q hq) (List.lt_irrefl _)
 exact key b a ha (fun r hr=>.inl hr) (fun _ hr=>hr) hb (fun r q hr _ _=>hr)
theorem zT (p q:List (Int×Nat)) (i:Nat) (h:i<p.length):dY (p++q) i=dY p i:=by
 simp[dY,List.getD_eq_getElem?_getD,List.getElem?_append_left h]
theorem D9 (p q:List (Int×Nat)) (i:Nat) (h:p.length<=i):dY (p++q) i=dY q (i-p.length):=by
 simp[dY,List.getD_eq_getElem?_getD,List.getElem?_append_right h]
theorem UN {p q:List (Int×Nat)} {m:Int} (hp:fF p=0) (hq:fF q=0) (h1:∀ x,x∈p->x.1<m) (h2:∀ x,x∈q->m<=x.1):fF (p++q)=if 120<(p++q).length then 2 else 0:=by
 by_cases hl:120<(p++q).length
 ·rw[if_pos hl];unfold fF;rw[if_pos hl]
 ·rw[if_neg hl];refine xP (by omega) fun i hi=>?_
  rw[List.length_append] at hi;by_cases hip:i<p.length
  ·have:=(fD hp).2 i hip;unfold dZ at this ⊢;rw[zT p q i hip,zT p q (i-1) (by omega)];exact this
  ·have hiq:i-p.length<q.length:=by omega
   have hk:=(fD hq).2 (i-p.length) hiq;unfold dZ at hk ⊢;rw[D9 p q i (by omega)];rw[Bool.and_eq_true] at hk ⊢;refine⟨hk.1,?_⟩;rw[Bool.or_eq_true,decide_eq_true_eq,decide_eq_true_eq];rcases Nat.eq_zero_or_pos i with h0 | h0
   ·exact .inl h0
   ·refine .inr ?_;by_cases hb:i=p.length
    ·rw[zT p q (i-1) (by omega)];have e1:dY p (i-1)=(p.getD (i-1) (0,0)).1:=rfl;have e2:dY q (i-p.length)=(q.getD (i-p.length) (0,0)).1:=rfl;have m1:=h1 _ (Bw p (0,0) (i-1) (by omega));have m2:=h2 _ (Bw q (0,0) (i-p.length) hiq);rw[e1,e2];omega
    ·rw[D9 p q (i-1) (by omega)];have:=hk.2;rw[Bool.or_eq_true,decide_eq_true_eq,decide_eq_true_eq] at this;rcases this with h3 | h3
     ·omega
     ·rw[show i-p.length-1=i-1-p.length by omega] at h3;exact h3
theorem NM {f s s':Int} {a b:List Rw} (ha:nZ f s a) (hb:nZ (f+s) s' b):∀ r,r∈aK a b->gF r.1=0/\(fF r.2=0\/fF r.2=2)/\kC f (s+s') r.2=true:=by
 obtain⟨a1,_,_,_⟩:=iL ha.bd;obtain⟨b1,_,_,_⟩:=iL hb.bd;have ua:Up a:=List.pairwise_map.1 ha.up;have ub:Up b:=List.pairwise_map.1 hb.up;intro r hr;rcases Km a b ua ub r hr with h | h | ⟨p,q,hp,hq,_,rfl⟩
 ·obtain⟨e1,e2,e3⟩:=ha.each r h;refine⟨e1,.inl e2,iA.2 fun x hx=>?_⟩;have:=iA.1 e3 x hx;omega
 ·obtain⟨e1,e2,e3⟩:=hb.each r h;refine⟨e1,.inl e2,iA.2 fun x hx=>?_⟩;have:=iA.1 e3 x hx;omega
 ·obtain⟨e1,e2,e3⟩:=ha.each p hp;obtain⟨_,e5,e6⟩:=hb.each q hq;refine⟨e1,?_,iA.2 fun x hx=>?_⟩
  ·rw[UN (m:=f+s) e2 e5 (fun x hx=>by have:=iA.1 e3 x hx;omega) (fun x hx=>by have:=iA.1 e6 x hx;omega)];split
   ·exact .inr rfl
   ·exact .inl rfl
  ·rcases List.mem_append.1 hx with hx' | hx'
   ·have:=iA.1 e3 x hx';omega
   ·have:=iA.1 e6 x hx';omega
theorem YA {f s s':Int} {a b:List Rw} (ha:nZ f s a) (hb:nZ (f+s) s' b):jL f (s+s') (aK a b)=0\/jL f (s+s') (aK a b)=2:=by
 have ua:Up a:=List.pairwise_map.1 ha.up;have ub:Up b:=List.pairwise_map.1 hb.up;have hu:((aK a b).map Prod.fst).Pairwise (· < ·):=List.pairwise_map.2 (UM a b ua ub);have hj:=NM ha hb;by_cases h0:gI f (s+s')≠0\/60<(aK a b).length
 ·exact .inr (BD h0).1
 ·have hat:∀ i,i<(aK a b).length->rowAt f (s+s') (aK a b) i=0\/rowAt f (s+s') (aK a b) i=2:=fun i hi=>by
   obtain⟨g1,g2⟩:=l7 hi;obtain⟨e1,e2,e3⟩:=hj _ (List.getElem_mem hi);have hpr:=BF hu (fun x hx=>by obtain⟨r,hr,rfl⟩:=List.mem_map.1 hx;exact (hj r hr).1) i (by simpa using hi);unfold rowAt;rw[g2];rw[g1] at hpr ⊢;have hn:gG (prev ((aK a b).map Prod.fst) i) (aK a b)[i].1=0:=by
    unfold gG;rw[if_neg (by rw[e1];exact fun h=>h rfl),if_pos hpr]
   unfold lG;rw[if_neg (by rw[hn];exact fun h=>h rfl),if_pos e3];rcases e2 with e2 | e2
   ·exact .inl (by rw[e2];rfl)
   ·exact .inr (by rw[e2];rfl)
  by_cases h1:∀ j,j<(aK a b).length->rowAt f (s+s') (aK a b) j=0
  ·exact .inl (Ez h0 h1).1
  ·unfold jL;rw[if_neg h0];split
   ·rename_i hlt;exact hat _ hlt
   ·exact .inl rfl
theorem UO {f s s':Int} {a b:List Rw} (ha:nZ f s a) (hb:nZ (f+s) s' b) (na:∀ r,r∈a->r.2 ≠ []/\mo r.2) (nb:∀ r,r∈b->r.2 ≠ []/\mo r.2):∀ r,r∈aK a b->r.2 ≠ []/\mo r.2/\r.2.length<=240:=by
 have ua:Up a:=List.pairwise_map.1 ha.up;have ub:Up b:=List.pairwise_map.1 hb.up;intro r hr;rcases Km a b ua ub r hr with h | h | ⟨p,q,hp,hq,_,rfl⟩
 ·have:=(fD (ha.each r h).2.1).1;exact⟨(na r h).1,(na r h).2,by omega⟩
 ·have:=(fD (hb.each r h).2.1).1;exact⟨(nb r h).1,(nb r h).2,by omega⟩
 ·have h1:=(fD (ha.each p hp).2.1).1;have h2:=(fD (hb.each q hq).2.1).1;refine⟨fun e=>(na p hp).1 (List.append_eq_nil_iff.1 e).1,fun x hx=>?_,?_⟩
  ·rcases List.mem_append.1 hx with hx' | hx'
   ·exact (na p hp).2 x hx'
   ·exact (nb q hq).2 x hx'
  ·show (p.2++q.2).length<=240;rw[List.length_append];omega
theorem UQ {f s s':Int} {a b:List Rw} (ha:nZ f s a) (hb:nZ (f+s) s' b):(aK a b).length<=120:=by
 have hl:∀ (l S:List Rw),Up S->(fQ S l).length<=S.length+l.length:=fun l=>by
  induction l with
  | nil=>intro S _;exact Nat.le_refl _
  | cons r l ih=>
   intro S hS;have h1:=ih (jI S r) (vo hS);have h2:=@BP S r hS;have h3:fQ S (r::l)=fQ (jI S r) l:=rfl;rw[h3,List.length_cons];split at h2<;>omega
 rw[<-qz b a (List.pairwise_map.1 ha.up) (List.pairwise_map.1 hb.up)];have h1:=hl b a (List.pairwise_map.1 ha.up);have h2:=ha.len;have h3:=hb.len;omega
end Go.Proofs.YtcemkhalbjhdkaaGreatDoor
