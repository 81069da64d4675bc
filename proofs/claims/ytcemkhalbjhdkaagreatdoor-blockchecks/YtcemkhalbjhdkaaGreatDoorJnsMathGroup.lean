import Derived.Test.YtcemkhalbjhdkaaGreatDoorBlkSetsGroup
import Derived.Test.YtcemkhalbjhdkaaGreatDoorHeadPutGroup
namespace Go.Proofs.YtcemkhalbjhdkaaGreatDoor
open bS ou
theorem Qj {l:List Rw} {k:List UInt8} {x:Int×Nat} (h:x∈lT l k):∃ r,r∈l/\lT l k=r.2:=by
 induction l with
 | nil=>cases h
 | cons r l ih=>
  rw[show lT (r::l) k=if r.1=k then r.2 else lT l k from rfl] at h ⊢;by_cases e:r.1=k
  ·rw[if_pos e];exact⟨r,List.mem_cons_self ..,rfl⟩
  ·rw[if_neg e] at h ⊢;obtain⟨q,hq,he⟩:=ih h;exact⟨q,List.mem_cons_of_mem _ hq,he⟩
theorem Qk {l:List Rw} {k:List UInt8} {m:Nat} (h:∀ r,r∈l->r.2.length<=m):(lT l k).length<=m:=by
 cases hx:lT l k with
 | nil=>exact Nat.zero_le _
 | cons x t=>
  obtain⟨r,hr,e⟩:=Qj (l:=l) (k:=k) (x:=x) (by rw[hx];exact List.mem_cons_self ..);rw[<-hx,e];exact h r hr
theorem Im.ZV {f s:Int} {F:List Rw} (h:Im f s F) (lo hi:Int) (k:List UInt8):(aX lo hi (lT F k)).length<=120:=Nat.le_trans (sO _ _ _) (Qk fun r hr=>(fD (h.well.each r hr).2.1).1)
theorem Im.acF {f s:Int} {F:List Rw} (h:Im f s F) (lo hi:Int) (k:List UInt8):oQ (aX lo hi (lT F k)):=fun p hp=>by
 have h1:=(List.mem_filter.1 hp).1;obtain⟨r,hr,e⟩:=Qj h1;exact h.bits r hr p (e ▸ h1)
end Go.Proofs.YtcemkhalbjhdkaaGreatDoor
namespace Go.Proofs.YtcemkhalbjhdkaaGreatDoor
open Go.RowKit Go.Maps bS bD
theorem Sj (w:World) (sb:Nat) (rows:List (List UInt8×List (Int×Nat))) (h:wS w sb rows) (hu:(rows.map Prod.fst).Pairwise (· < ·)) (hn:rows.length<=1000) (nm:ByteArray) :
  Calls Tryz.prog 22 #[.pointer (some ⟨sb,0,none⟩),.string nm] w fun e w'=>w'=w/\∃ a c,e = .returned (.slice a (lT rows nm.data.toList).length c)/\iK w a (lT rows nm.data.toList):=by
 obtain⟨a,c,b,d,h1,h2,h3⟩:=h.ex;have hV:∀ i,i<rows.length->∃ A C,w.cell? ⟨(b.getD ⟨0,0,none⟩).block,i,none⟩=some (.slice A (rows.getD i ([],[])).2.length C)/\iK w A (rows.getD i ([],[])).2:=fun i hi=>by
  obtain⟨g,e,A,C,hc,hp⟩:=h3 i hi;refine⟨A,C,?_,?_⟩
  ·rw[e];simpa [List.getD_eq_getElem?_getD,hi] using hc
  ·simpa [List.getD_eq_getElem?_getD,hi] using hp
 have hset:ach w sb rows.length (fun i=>txt (rows.getD i ([],[])).1) (fun i=>(w.cell? ⟨(b.getD ⟨0,0,none⟩).block,i,none⟩).getD undef):=by
  refine⟨⟨a,c,b,d,ak h1 0,ak h1 1,fun i hi=>⟨?_,?_⟩⟩,fun i hi=>?_⟩
  ·obtain⟨g,e,hc⟩:=h2 i hi;refine⟨g,0,e,?_⟩;rw[Nat.zero_add,hc];simp[List.getD_eq_getElem?_getD,hi,encStr,txt]
  ·obtain⟨g,e,A,C,hc,hp⟩:=h3 i hi;refine⟨g,0,e,?_⟩;rw[Nat.zero_add,e];simp[hc]
  ·obtain⟨A,C,hc,_⟩:=hV i hi;exact⟨A,_,C,by rw[hc];rfl⟩
 refine (UA w sb rows.length _ _ hset (by omega) nm).mono ?_;rintro e w' ⟨⟨i,hi,hx,_,rfl⟩|⟨hno,rfl⟩,rfl⟩
 ·refine⟨rfl,?_⟩;dsimp only at hx ⊢;obtain⟨A,C,hc,hp⟩:=hV i hi;have hg:rows.getD i ([],[])=rows[i]:=by simp[List.getD_eq_getElem?_getD,hi]
  rw[hg] at hc hp hx;have ho:lT rows nm.data.toList=rows[i].2:=by
   rw[<-hx];exact acp hu hi
  rw[ho];exact⟨A,C,by rw[hc];rfl,hp⟩
 ·refine⟨rfl,none,0,?_,?_⟩;all_goals
   have ho:lT rows nm.data.toList = []:=by
    refine Ga fun j hj e=>hno j hj ?_
    have hg:rows.getD j ([],[])=rows[j]:=by simp[List.getD_eq_getElem?_getD,hj]
    show txt (rows.getD j ([],[])).1=nm;rw[hg,e];exact u6 nm
   rw[ho]
  ·rfl
  ·exact .inl rfl
end Go.Proofs.YtcemkhalbjhdkaaGreatDoor
