import Derived.Test.YtololnhfgjbhjaaGreatDoorBlkTwoGroup
import Derived.Test.YtololnhfgjbhjaaGreatDoorHeadSeriesGroup
namespace Go.Proofs.YtololnhfgjbhjaaGreatDoor
open Go.RowKit Go.Maps aV
theorem Tt{l:List (Int×Nat)}(h:l.length<=120):(fI l).length<=10000:=by
 have h1:=BH (fP l) (sW l) l.length;have h3:(fI l).length=(aj.pack (dV (fP l) (sW l) l.length)).length+4:=by rw[fI,eP,aj.iW,List.length_append,xV]
 rw[aj.wN] at h3;omega
theorem agw{l:List (List UInt8×List (Int×Nat))}(h:(l.map Prod.fst).Pairwise (· < ·)){k:Nat}(hk:k<l.length):uy l l[k].1=l[k].2:=
 Yi hk (λj hj hjk e=>by
  have:=List.pairwise_iff_getElem.1 h j k (by simpa using hj) (by simpa using hk) hjk;simp only[List.getElem_map] at this;rw[e] at this;exact List.lt_irrefl _ this) rfl
def Vr(F:List (List UInt8×List (Int×Nat))):List (List UInt8):=F.map λr=>fI r.2
structure pz(f s:Int)(F:List (List UInt8×List (Int×Nat))):Prop where
 well:mh f s F
 full:full F=F
 some:∀r,r∈F->r.2 ≠ []/\lW r.2
 bits:∀r,r∈F->qW r.2
theorem adV{f s:Int}{rows:List (List UInt8×List (Int×Nat))}(h:ko f s rows=0)(Ê:∀r,r∈rows->qW r.2):pz f s (full rows):=
 ⟨(Gp h).full,xw λ_ hr=>(zN hr).2,λr hr=>⟨(zN hr).2,λp hp=>(Ê r (zN hr).1 p hp).2.2⟩,λr hr=>Ê r (zN hr).1⟩
theorem pz.bk{f s:Int}{F:List (List UInt8×List (Int×Nat))}(h:pz f s F):lX f s (F.map Prod.fst) (Vr F)=0/\vU f s (F.map Prod.fst) (Vr F) = -1/\rowsOf (F.map Prod.fst) (Vr F)=F:=adD h.well h.some
theorem pz.chunks{f s:Int}{F:List (List UInt8×List (Int×Nat))}(h:pz f s F):∀x,x∈(Vr F)->x.length<=10000:=λx hx=>by
 obtain⟨r,hr,rfl⟩:=List.mem_map.1 hx;exact Tt (jg (h.well.each r hr).2.1).1
open bS
theorem adW{l:List Rw}{k:List UInt8}{x:Int×Nat}(h:x∈uy l k):∃r,r∈l/\uy l k=r.2:=by
 induction l with
 | nil=>cases h
 | cons r l ih=>
  rw[show uy (r::l) k=if r.1=k then r.2 else uy l k from rfl] at h ⊢;by_cases e:r.1=k
  ·rw[if_pos e];exact⟨r,List.mem_cons_self ..,rfl⟩
  ·rw[if_neg e] at h ⊢;obtain⟨q,hq,he⟩:=ih h;exact⟨q,List.mem_cons_of_mem _ hq,he⟩
theorem adX{f s s':Int}{a b:List Rw}(ha:pz f s a)(hb:pz (f+s) s' b)(h:ko f (s+s') (bG a b)=0):pz f (s+s') (bG a b):=by
 have hl:=Xq ha.well hb.well ha.some hb.some;refine⟨Gp h,xw λr hr=>(hl r hr).1,λr hr=>⟨(hl r hr).1,(hl r hr).2.1⟩,λr hr p hp=>?_⟩;have h1:=j6.1 ((Gp h).each r hr).2.2 p hp;obtain⟨b1,b2,b3,b4⟩:=nO (Gp h).bd;have h2:=(hl r hr).2.1 p hp;omega
theorem adY{f s s':Int}{a b:List Rw}(ha:mh f s a)(hb:mh (f+s) s' b){m:Nat}(h1:∀r,r∈a->r.1.length<=m)(h2:∀r,r∈b->r.1.length<=m):∀r,r∈bG a b->r.1.length<=m:=λr hr=>by
 rcases ES a b (List.pairwise_map.1 ha.up) (List.pairwise_map.1 hb.up) r hr with h|h|⟨p,q,hp,_,_,rfl⟩
 ·exact h1 r h
 ·exact h2 r h
 ·exact h1 p hp
end Go.Proofs.YtololnhfgjbhjaaGreatDoor
