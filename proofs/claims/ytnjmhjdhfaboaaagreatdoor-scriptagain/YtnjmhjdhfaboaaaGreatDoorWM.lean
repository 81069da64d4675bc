import Derived.Test.YtnjmhjdhfaboaaaGreatDoorWB
import Derived.Test.YtnjmhjdhfaboaaaGreatDoorWG
open List
namespace Go.Proofs.YtnjmhjdhfaboaaaGreatDoor
open Go.RowKit Go.Maps aU
theorem MX{l:List (Int×Nat)}(h:l.length<=120):(dZ l).length<=10000:=by
 have o:=CQ (fK l) (uy l) l.length;have j:(dZ l).length=(aj.pack (dU (fK l) (uy l) l.length)).length+4:=by rw[dZ,eH,aj.iE,length_append,uw]
 rw[aj.xO] at j;omega
def pF:List (List UInt8×List (Int×Nat)):=[([110,61,97],[(3,7)])]
theorem Cm:lG 0 10 pF:=by
 refine⟨lJ,lJ,pairwise_singleton _ _,λr j=>?_⟩;simp[pF] at j;subst j;exact⟨Am,CW lJ lJ,lJ⟩
theorem aiL{l:List (List UInt8×List (Int×Nat))}(h:(l.map Prod.fst).Pairwise (· < ·)){k:Nat}(q:k<l.length):uW l l[k].1=l[k].2:=
 aae q (λj z o e=>by
  have:=pairwise_iff_getElem.1 h j k (by simpa using z) (by simpa using q) o;simp only[getElem_map] at this;rw[e] at this;exact List.lt_irrefl _ this) rfl
def XR(F:List (List UInt8×List (Int×Nat))):List (List UInt8):=F.map λr=>dZ r.2
structure qj(f s:Int)(F:List (List UInt8×List (Int×Nat))):Prop where
 well:lG f s F
 full:full F=F
 some:∀r,r∈F->r.2 ≠ []/\ni r.2
 bits:∀r,r∈F->nI r.2
theorem agi{f s:Int}{rows:List (List UInt8×List (Int×Nat))}(h:kJ f s rows=0)(o:∀r,r∈rows->nI r.2):qj f s (full rows):=
 ⟨(Ht h).full,yA λ_ j=>(Aq j).2,λr j=>⟨(Aq j).2,λp q=>(o r (Aq j).1 p q).2.2⟩,λr j=>o r (Aq j).1⟩
theorem qj.bk{f s:Int}{F:List (List UInt8×List (Int×Nat))}(h:qj f s F):ow f s (F.map Prod.fst) (XR F)=0/\wN f s (F.map Prod.fst) (XR F) = -1/\rowsOf (F.map Prod.fst) (XR F)=F:=afX h.well h.some
theorem qj.chunks{f s:Int}{F:List (List UInt8×List (Int×Nat))}(h:qj f s F):∀x,x∈(XR F)->x.length<=10000:=λx o=>by
 obtain⟨r,j,rfl⟩:=mem_map.1 o;exact MX (iw (h.well.each r j).2.1).1
open bH
theorem agj{l:List Rw}{k:List UInt8}{x:Int×Nat}(h:x∈uW l k):∃r,r∈l/\uW l k=r.2:=by
 induction l with
 | nil=>cases h
 | cons r l ih=>
  rw[show uW (r::l) k=if r.1=k then r.2 else uW l k from rfl] at h ⊢;by_cases e:r.1=k
  ·rw[if_pos e];exact⟨r,mem_cons_self ..,rfl⟩
  ·rw[if_neg e] at h ⊢;obtain⟨q,o,j⟩:=ih h;exact⟨q,mem_cons_of_mem _ o,j⟩
theorem agk{f s s':Int}{a b:List Rw}(q:qj f s a)(z:qj (f+s) s' b)(h:kJ f (s+s') (bJ a b)=0):qj f (s+s') (bJ a b):=by
 have o:=ZE q.well z.well q.some z.some;refine⟨Ht h,yA λr j=>(o r j).1,λr j=>⟨(o r j).1,(o r j).2.1⟩,λr j p A=>?_⟩;have I:=kH.1 ((Ht h).each r j).2.2 p A;obtain⟨D,F,G,H⟩:=oK (Ht h).bd;have J:=(o r j).2.1 p A;omega
theorem agl{f s s':Int}{a b:List Rw}(z:lG f s a)(A:lG (f+s) s' b){m:Nat}(j:∀r,r∈a->r.1.length<=m)(o:∀r,r∈b->r.1.length<=m):∀r,r∈bJ a b->r.1.length<=m:=λr F=>by
 rcases FT a b (pairwise_map.1 z.up) (pairwise_map.1 A.up) r F with h|h|⟨p,q,D,_,_,rfl⟩
 ·exact j r h
 ·exact o r h
 ·exact j p D
