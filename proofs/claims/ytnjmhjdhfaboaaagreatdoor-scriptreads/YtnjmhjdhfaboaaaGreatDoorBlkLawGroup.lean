import Derived.Test.YtnjmhjdhfaboaaaGreatDoorBlkTwoGroup
import Derived.Test.YtnjmhjdhfaboaaaGreatDoorHeadSeriesGroup
open List
namespace Go.Proofs.YtnjmhjdhfaboaaaGreatDoor
open Go.RowKit Go.Maps aR
theorem MW{l:List (Int×Nat)}(h:l.length<=120):(dU l).length<=10000:=by
 have q:=CK (fI l) (rU l) l.length;have o:(dU l).length=(aj.pack (dP (fI l) (rU l) l.length)).length+4:=by rw[dU,dY,aj.gX,length_append,qm]
 rw[aj.xP] at o;omega
def pz:List (List UInt8×List (Int×Nat)):=[([110,61,97],[(3,7)])]
theorem Cu:lu 0 10 pz:=by
 refine⟨nQ,nQ,pairwise_singleton _ _,λr o=>?_⟩;simp[pz] at o;subst o;exact⟨Al,CS nQ nQ,nQ⟩
theorem ajg{l:List (List UInt8×List (Int×Nat))}(h:(l.map Prod.fst).Pairwise (· < ·)){k:Nat}(q:k<l.length):uX l l[k].1=l[k].2:=
 Zz q (λj z o e=>by
  have:=pairwise_iff_getElem.1 h j k (by simpa using z) (by simpa using q) o;simp only[getElem_map] at this;rw[e] at this;exact List.lt_irrefl _ this) rfl
def XU(F:List (List UInt8×List (Int×Nat))):List (List UInt8):=F.map λr=>dU r.2
structure qg(f s:Int)(F:List (List UInt8×List (Int×Nat))):Prop where
 well:lu f s F
 full:full F=F
 some:∀r,r∈F->r.2 ≠ []/\mQ r.2
 bits:∀r,r∈F->ni r.2
theorem afX{f s:Int}{rows:List (List UInt8×List (Int×Nat))}(h:kG f s rows=0)(q:∀r,r∈rows->ni r.2):qg f s (full rows):=
 ⟨(Hl h).full,yA λ_ o=>(Ap o).2,λr o=>⟨(Ap o).2,λp z=>(q r (Ap o).1 p z).2.2⟩,λr o=>q r (Ap o).1⟩
theorem qg.bk{f s:Int}{F:List (List UInt8×List (Int×Nat))}(h:qg f s F):nW f s (F.map Prod.fst) (XU F)=0/\wQ f s (F.map Prod.fst) (XU F) = -1/\rowsOf (F.map Prod.fst) (XU F)=F:=afv h.well h.some
theorem qg.chunks{f s:Int}{F:List (List UInt8×List (Int×Nat))}(h:qg f s F):∀x,x∈(XU F)->x.length<=10000:=λx q=>by
 obtain⟨r,o,rfl⟩:=mem_map.1 q;exact MW (iq (h.well.each r o).2.1).1
open bK
theorem afY{l:List Rw}{k:List UInt8}{x:Int×Nat}(h:x∈uX l k):∃r,r∈l/\uX l k=r.2:=by
 induction l with
 | nil=>cases h
 | cons r l ih=>
  rw[show uX (r::l) k=if r.1=k then r.2 else uX l k from rfl] at h ⊢;by_cases e:r.1=k
  ·rw[if_pos e];exact⟨r,mem_cons_self ..,rfl⟩
  ·rw[if_neg e] at h ⊢;obtain⟨q,z,o⟩:=ih h;exact⟨q,mem_cons_of_mem _ z,o⟩
theorem afZ{f s s':Int}{a b:List Rw}(A:qg f s a)(z:qg (f+s) s' b)(h:kG f (s+s') (bI a b)=0):qg f (s+s') (bI a b):=by
 have q:=Y7 A.well z.well A.some z.some;refine⟨Hl h,yA λr o=>(q r o).1,λr o=>⟨(q r o).1,(q r o).2.1⟩,λr o p D=>?_⟩;have I:=kD.1 ((Hl h).each r o).2.2 p D;obtain⟨F,K,H,J⟩:=oz (Hl h).bd;have G:=(q r o).2.1 p D;omega
theorem af0{f s s':Int}{a b:List Rw}(F:lu f s a)(z:lu (f+s) s' b){m:Nat}(o:∀r,r∈a->r.1.length<=m)(A:∀r,r∈b->r.1.length<=m):∀r,r∈bI a b->r.1.length<=m:=λr D=>by
 rcases FQ a b (pairwise_map.1 F.up) (pairwise_map.1 z.up) r D with h|h|⟨p,q,G,_,_,rfl⟩
 ·exact o r h
 ·exact A r h
 ·exact o p G
end Go.Proofs.YtnjmhjdhfaboaaaGreatDoor
