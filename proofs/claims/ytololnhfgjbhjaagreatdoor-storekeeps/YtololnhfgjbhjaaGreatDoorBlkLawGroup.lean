import Derived.Test.YtololnhfgjbhjaaGreatDoorBlkTwoGroup
import Derived.Test.YtololnhfgjbhjaaGreatDoorHeadSeriesGroup
namespace Go.Proofs.YtololnhfgjbhjaaGreatDoor
open Go.RowKit Go.Maps bD
theorem Tt{l:List (Int×Nat)}(h:l.length<=120):(fG l).length<=10000:=by
 have h1:=BS (fM l) (tY l) l.length;have h3:(fG l).length=(aj.pack (dW (fM l) (tY l) l.length)).length+4:=by rw[fG,fq,aj.jl,List.length_append,xX]
 rw[aj.wW] at h3;omega
def lF:List (List UInt8×List (Int×Nat)):=[([110,61,97],[(3,7)])]
theorem xg:lI 0 10 lF:=by
 refine⟨by decide,by decide,List.pairwise_singleton _ _,λr hr=>?_⟩;simp[lF] at hr;subst hr;exact⟨zK,Ce (by decide) (by decide),by decide⟩
theorem Yz{l:List (List UInt8×List (Int×Nat))}(h:(l.map Prod.fst).Pairwise (· < ·)){k:Nat}(hk:k<l.length):gy l l[k].1=l[k].2:=
 Qb hk (λj hj hjk e=>by
  have:=List.pairwise_iff_getElem.1 h j k (by simpa using hj) (by simpa using hk) hjk;simp only[List.getElem_map] at this;rw[e] at this;exact List.lt_irrefl _ this) rfl
def Vt(F:List (List UInt8×List (Int×Nat))):List (List UInt8):=F.map λr=>fG r.2
structure rU(f s:Int)(F:List (List UInt8×List (Int×Nat))):Prop where
 well:lI f s F
 full:full F=F
 some:∀r,r∈F->r.2 ≠ []/\mH r.2
 bits:∀r,r∈F->rO r.2
theorem aeb{f s:Int}{rows:List (List UInt8×List (Int×Nat))}(h:jS f s rows=0)(Ï:∀r,r∈rows->rO r.2):rU f s (full rows):=
 ⟨(GU h).full,xH λ_ hr=>(zN hr).2,λr hr=>⟨(zN hr).2,λp hp=>(Ï r (zN hr).1 p hp).2.2⟩,λr hr=>Ï r (zN hr).1⟩
theorem rU.bk{f s:Int}{F:List (List UInt8×List (Int×Nat))}(h:rU f s F):mJ f s (F.map Prod.fst) (Vt F)=0/\wo f s (F.map Prod.fst) (Vt F) = -1/\rowsOf (F.map Prod.fst) (Vt F)=F:=adR h.well h.some
theorem rU.chunks{f s:Int}{F:List (List UInt8×List (Int×Nat))}(h:rU f s F):∀x,x∈(Vt F)->x.length<=10000:=λx hx=>by
 obtain⟨r,hr,rfl⟩:=List.mem_map.1 hx;exact Tt (iV (h.well.each r hr).2.1).1
open dH
theorem M7{l:List Rw}{k:List UInt8}(h:∀r,r∈l->k<r.1):gy l k = []:=DT λ_ hj e=>absurd (e ▸ h _ (List.getElem_mem hj)) (List.lt_irrefl _)
theorem AU:∀(a b:List Rw) (k:List UInt8),Up a->Up b->gy (bC a b) k=gy a k++gy b k
 | [],b,k,_,_=>by rw[yL];rfl
 | p::a,[],k,_,_=>by rw[yM];exact (List.append_nil _).symm
 | p::a,q::b,k,ha,hb=>by
  obtain⟨a1,a2⟩:=List.pairwise_cons.1 ha;obtain⟨b1,b2⟩:=List.pairwise_cons.1 hb;have hp:gy (p::a) k=if p.1=k then p.2 else gy a k:=rfl
  have hq:gy (q::b) k=if q.1=k then q.2 else gy b k:=rfl
  rw[Bf];by_cases e:p.1=q.1
  ·rw[if_pos e,show gy ((p.1,p.2++q.2)::bC a b) k=if p.1=k then p.2++q.2 else gy (bC a b) k from rfl,AU a b k a2 b2,hp,hq];by_cases h:p.1=k
   ·rw[if_pos h,if_pos h,if_pos (e ▸ h)]
   ·rw[if_neg h,if_neg h,if_neg (e ▸ h)]
  ·rw[if_neg e];by_cases g:q.1<p.1
   ·rw[if_pos g,show gy (q::bC (p::a) b) k=if q.1=k then q.2 else gy (bC (p::a) b) k from rfl,AU (p::a) b k ha b2,hq];by_cases h:q.1=k
    ·rw[if_pos h,if_pos h,M7 (l:=p::a) λr hr=>?_,List.nil_append];rcases List.mem_cons.1 hr with rfl|hr'
     ·rw[<-h];exact g
     ·rw[<-h];exact List.lt_trans g (a1 r hr')
    ·rw[if_neg h,if_neg h]
   ·have g2:p.1<q.1:=tri (λe2=>e e2.symm) g;rw[if_neg g,show gy (p::bC a (q::b)) k=if p.1=k then p.2 else gy (bC a (q::b)) k from rfl,AU a (q::b) k a2 hb,hp];by_cases h:p.1=k
    ·rw[if_pos h,if_pos h,M7 (l:=q::b) λr hr=>?_,List.append_nil];rcases List.mem_cons.1 hr with rfl|hr'
     ·rw[<-h];exact g2
     ·rw[<-h];exact List.lt_trans g2 (b1 r hr')
    ·rw[if_neg h,if_neg h]
termination_by a b=>a.length+b.length
theorem Tv{l:List Rw}{k:List UInt8}{x:Int×Nat}(h:x∈gy l k):∃r,r∈l/\gy l k=r.2:=by
 induction l with
 | nil=>cases h
 | cons r l ih=>
  rw[show gy (r::l) k=if r.1=k then r.2 else gy l k from rfl] at h ⊢;by_cases e:r.1=k
  ·rw[if_pos e];exact⟨r,List.mem_cons_self ..,rfl⟩
  ·rw[if_neg e] at h ⊢;obtain⟨q,hq,he⟩:=ih h;exact⟨q,List.mem_cons_of_mem _ hq,he⟩
theorem aec{f s s':Int}{a b:List Rw}(ha:rU f s a)(hb:rU (f+s) s' b)(h:jS f (s+s') (bC a b)=0):rU f (s+s') (bC a b):=by
 have hl:=Xz ha.well hb.well ha.some hb.some;refine⟨GU h,xH λr hr=>(hl r hr).1,λr hr=>⟨(hl r hr).1,(hl r hr).2.1⟩,λr hr p hp=>?_⟩;have h1:=jQ.1 ((GU h).each r hr).2.2 p hp;obtain⟨b1,b2,b3,b4⟩:=nY (GU h).bd;have h2:=(hl r hr).2.1 p hp;omega
theorem aed{f s s':Int}{a b:List Rw}(ha:lI f s a)(hb:lI (f+s) s' b){m:Nat}(h1:∀r,r∈a->r.1.length<=m)(h2:∀r,r∈b->r.1.length<=m):∀r,r∈bC a b->r.1.length<=m:=λr hr=>by
 rcases Fj a b (List.pairwise_map.1 ha.up) (List.pairwise_map.1 hb.up) r hr with h|h|⟨p,q,hp,_,_,rfl⟩
 ·exact h1 r h
 ·exact h2 r h
 ·exact h1 p hp
end Go.Proofs.YtololnhfgjbhjaaGreatDoor
