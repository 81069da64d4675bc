import Derived.Test.YtcemkhalbjhdkaaGreatDoorBitMathGroup
import Derived.Test.YtcemkhalbjhdkaaGreatDoorLabFaultGroup
import Derived.Test.YtcemkhalbjhdkaaGreatDoorPtListGroup
import Derived.Test.YtcemkhalbjhdkaaGreatDoorRows1Group
import Derived.Maps.OwnSet
import Derived.Maps.RangeWalk
import Derived.StringKeys
import Derived.Deep.QuietTactic
import Derived.BigQuiet
import Derived.Test.YtcemkhalbjhdkaaGreatDoorRefReadGroup
import Derived.Laws.OwnMore
import Derived.Deep.DeepCutAuto
import Derived.Test.YtcemkhalbjhdkaaGreatDoorRefTicksGroup
namespace Go.Proofs.YtcemkhalbjhdkaaGreatDoor
open Go.RowKit dQ
theorem pU (T:Nat->Int) (B:Nat->Nat):∀ n,bV (jL T B n)=dK T B n
 | 0=>rfl
 | n+1=>by
  rw[dK,<-pU T B n];have e:jL T B (n+1)=jL T B n ++ [(T n,B n)]:=by simp[jL,List.range_succ]
  rw[e,<-xQ]
theorem iL (T:Nat->Int) (B:Nat->Nat) (n:Nat):(jL T B n).length=n:=by simp[jL]
def iJ (l:List (Int×Nat)) (i:Nat):Int:=(l.getD i (0,0)).1
def qL (l:List (Int×Nat)) (i:Nat):Nat:=(l.getD i (0,0)).2
theorem Lb {w:World} {a:Option Addr} {l:List (Int×Nat)} (h:oH w a l) (hin:Du l):pW w a l.length (iJ l) (qL l):=by
 rcases h with h | ⟨b,o,h,hc⟩
 ·subst h;exact .inl rfl
 ·refine .inr ⟨b,o,h,fun k hk=>?_⟩;obtain⟨c0,c1⟩:=hc k hk;have e:l.getD k (0,0)=l[k]:=by simp[List.getD_eq_getElem?_getD,hk]
  have hm:=hin l[k] (List.getElem_mem hk);unfold iJ qL;rw[e];exact⟨c0,c1,hm.1,hm.2.1,hm.2.2⟩
end Go.Proofs.YtcemkhalbjhdkaaGreatDoor
namespace Go.Proofs.YtcemkhalbjhdkaaGreatDoor
open Go.RowKit Go.Maps lM aU dQ
theorem dN {w w':World} {base:Nat} {e:TypeId} {sz:Nat} {v:Value} {n:Nat} {xs:List Value} (h:w.ownsRow base e sz v n xs) (he:∀ g,v.ownBlock=some g->w'.heap[g]? = w.heap[g]?):w'.ownsRow base e sz v n xs:=by
 obtain⟨h1,h2⟩:=h;refine⟨h1,?_⟩;rcases h2 with h2 | ⟨g,cap,cur,hv,hg,hh,t⟩
 ·exact .inl h2
 ·exact .inr ⟨g,cap,cur,hv,hg,(he g (by rw[hv];rfl)).trans hh,t⟩
theorem bL {w:World} {base:Nat} {e:TypeId} {sz:Nat} {v:Value} {n:Nat} {xs:List Value} (h:w.ownsRow base e sz v n xs) {g:Nat} (hg:v.ownBlock=some g):base<=g/\g<w.heap.size/\∃ cur,w.heap[g]? = some (.cells cur e (0,0)):=by
 rcases h.2 with⟨hv,_⟩|⟨g',cap,cur,hv,hg',hh,_⟩
 ·rw[hv] at hg;cases hg
 ·rw[hv] at hg;simp[Value.ownBlock] at hg;subst hg;exact⟨hg',aV hh,cur,hh⟩
theorem rW {w:World} {a b:Nat} {cs ds:Array Value} {t u:TypeId} {f g:Nat×Nat} (ha:w.heap[a]? = some (.cells cs t f)) (hb:w.heap[b]? = some (.cells ds u g)) (hne:t≠u):a≠b:=fun e=>by
 subst e;rw[ha] at hb;injection hb with hb;injection hb with _ h2;exact hne h2
end Go.Proofs.YtcemkhalbjhdkaaGreatDoor
namespace Go.Proofs.YtcemkhalbjhdkaaGreatDoor
open Go.RowKit Go.Maps lM aU dQ
noncomputable def gQ (l:List UInt8):Int:=match scan l [] [] [] false with | none=>1 | some out=>fC (nameAt out) (dG out) out.length
noncomputable def yV (l:List UInt8):Int:=match scan l [] [] [] false with | none=>-1 | some out=>fA (nameAt out) (dG out) out.length
theorem Ao (l:List UInt8):0<=gQ l:=by
 unfold gQ;split
 ·omega
 ·exact (JI _ _ _).1
theorem P7 {l nm vl:List UInt8} (h:scan l [] [] [] false=some [(nm,vl)]) (h1:isName (nameAt [(nm,vl)] 0)=true) (h2:isWord (dG [(nm,vl)] 0)=true):gQ l=0:=by
 unfold gQ;rw[h];refine VU _ _ 1 (by omega) (by omega) fun i hi=>?_
 obtain rfl:i=0:=by omega
 unfold jg;rw[h1,h2];rfl
theorem SF:gQ [110,61,97]=0:=P7 (nm:=[110]) (vl:=[97]) (by decide) (by decide) (by decide)
end Go.Proofs.YtcemkhalbjhdkaaGreatDoor
namespace Go.Proofs.YtcemkhalbjhdkaaGreatDoor
open Go.RowKit dQ aU
def jw (l:List (Int×Nat)):List UInt8:=bY (iJ l) (qL l) l.length
theorem pE (T:Nat->Int) (B:Nat->Nat) (n i:Nat) (h:i<n):iJ (jL T B n) i=T i:=by simp[iJ,jL,List.getD_eq_getElem?_getD,h]
theorem JK (T:Nat->Int) (B:Nat->Nat) (n i:Nat) (h:i<n):qL (jL T B n) i=B i:=by simp[qL,jL,List.getD_eq_getElem?_getD,h]
theorem CO (T U:Nat->Int) (B C:Nat->Nat) (n:Nat) (hT:∀ i,i<n->T i=U i) (hB:∀ i,i<n->B i=C i):bY T B n=bY U C n:=by
 unfold bY;rw[ug T U B C n hT hB]
theorem yX (T:Nat->Int) (B:Nat->Nat) (n:Nat):jw (jL T B n)=bY T B n:=by
 unfold jw;rw[iL];exact CO _ _ _ _ _ (fun i hi=>pE T B n i hi) (fun i hi=>JK T B n i hi)
noncomputable def Eb (l:List (Int×Nat)):Nat:=mG (eO (iJ l)) l.length
noncomputable def jD (l:List (Int×Nat)):Int:=if 120<l.length then 2 else if Eb l<l.length then (if bG (iJ l (Eb l))=true then 8 else 2) else 0
theorem ql {l:List (Int×Nat)} (h:jD l=0):l.length<=120/\∀ i,i<l.length->eO (iJ l) i=true:=by
 unfold jD at h;split at h
 ·cases h
 ·split at h
  ·split at h<;>cases h
  ·rename_i h1 h2;obtain⟨g,g1,_⟩:=qK (eO (iJ l)) l.length;refine⟨by omega,fun i hi=>g1 i ?_⟩;unfold Eb at h2;omega
theorem yc {l:List (Int×Nat)} (h1:l.length<=120) (h2:∀ i,i<l.length->eO (iJ l) i=true):jD l=0:=by
 have hb:Eb l=l.length:=nT _ _ _ (Nat.le_refl _) h2 (fun h=>absurd h (by omega));unfold jD;rw[if_neg (by omega),hb,if_neg (by omega)]
theorem Lc (l:List (Int×Nat)):0<=jD l:=by
 unfold jD;split
 ·decide
 ·split
  ·split<;>decide
  ·decide
def qM (l:List (Int×Nat)):Prop:=∀ p,p∈l->p.2<18446744073709551616
theorem JL {α:Type} (l:List α) (d:α) (i:Nat) (h:i<l.length):l.getD i d∈l:=by
 rw[List.getD_eq_getElem?_getD,List.getElem?_eq_getElem h];exact List.getElem_mem h
theorem CP {l:List (Int×Nat)} (h:qM l) (i:Nat) (hi:i<l.length):qL l i<18446744073709551616:=h _ (JL l _ i hi)
theorem P8 {l:List (Int×Nat)} (h:jD l=0) (hb:qM l):dB (jw l):=
 ⟨l.length,iJ l,qL l,(ql h).1,(ql h).2,CP hb,rfl⟩
theorem VX {l m:List (Int×Nat)} (hl:jD l=0) (hm:jD m=0) (bl:qM l) (bm:qM m) (h:jw l=jw m):l=m:=by
 obtain⟨a1,a2⟩:=ql hl;obtain⟨b1,b2⟩:=ql hm;obtain⟨e,e1,e2⟩:=ND _ _ _ _ _ _ a1 b1 a2 b2 (CP bl) (CP bm) h;refine List.ext_getElem e fun i h1 h2=>?_
 have t1:=e1 i h1;have t2:=e2 i h1;simp only[iJ,qL,List.getD_eq_getElem?_getD,List.getElem?_eq_getElem h1,List.getElem?_eq_getElem h2,Option.getD_some] at t1 t2;exact Prod.ext t1 t2
theorem Ec (c:List UInt8) (h:dB c):∃ l:List (Int×Nat),jD l=0/\qM l/\jw l=c:=by
 obtain⟨n,T,B,hn,hT,hB,e⟩:=h;refine⟨jL T B n,yc (by rw[iL];exact hn) (fun i hi=>?_),fun p hp=>?_,(yX T B n).trans e.symm⟩
 ·rw[iL] at hi;rw[qE _ T n (fun j hj=>pE T B n j hj) i hi];exact hT i hi
 ·simp[jL] at hp;obtain⟨i,hi,rfl⟩:=hp;exact hB i hi
open Classical in
noncomputable def nI (c:List UInt8):Int:=if dB c then 0 else if c.length<5 then 1 else if aj.dJ (c.take (c.length-4))=c then 1 else 9
open Classical in
noncomputable def gF (c:List UInt8):List (Int×Nat):=if h:dB c then (Ec c h).choose else []
theorem rX {c:List UInt8} (h:dB c):jD (gF c)=0/\qM (gF c)/\jw (gF c)=c:=by
 unfold gF;rw[dif_pos h];exact (Ec c h).choose_spec
theorem EY {l:List (Int×Nat)} (h:jD l=0) (hb:qM l):gF (jw l)=l:=by
 obtain⟨h1,h2,h3⟩:=rX (P8 h hb);exact VX h1 h h2 hb h3
theorem nX {c:List UInt8}:nI c=0↔dB c:=by
 unfold nI;constructor
 ·intro h;split at h
  ·assumption
  ·split at h
   ·cases h
   ·split at h<;>cases h
 ·intro h;rw[if_pos h]
theorem L9 {c:List UInt8} (h:¬ dB c):nI c=(if c.length<5 then 1 else if aj.dJ (c.take (c.length-4))=c then 1 else 9):=by
 unfold nI;rw[if_neg h]
theorem Ed (c:List UInt8):0<=nI c:=by
 unfold nI;split
 ·decide
 ·split
  ·decide
  ·split<;>decide
theorem Ld:gQ []≠0:=by
 unfold gQ;simp[scan]
theorem Gi {n:List UInt8} (h:gQ n=0):([]:List UInt8)<n:=by
 cases n with
 | nil=>exact absurd h Ld
 | cons a r=>exact List.nil_lt_cons ..
noncomputable def iF (ahead name:List UInt8):Int:=if gQ name≠0 then gQ name else if ahead<name then 0 else 3
theorem Ap (a n:List UInt8):0<=iF a n:=by
 unfold iF;split
 ·exact Ao n
 ·split<;>decide
theorem Ee {a n:List UInt8} (h:iF a n=0):gQ n=0/\a<n:=by
 unfold iF at h;split at h
 ·rename_i h1;exact absurd h h1
 ·rename_i h1;split at h
  ·rename_i h2;exact⟨Decidable.not_not.1 h1,h2⟩
  ·cases h
noncomputable def kC (f s:Int) (ahead name c:List UInt8):Int:=if iF ahead name≠0 then iF ahead name else if nI c≠0 then nI c else if gF c = [] then 5 else if lg f s (gF c)=true then 0 else 2
noncomputable def oJ (f s:Int) (ahead name:List UInt8) (l:List (Int×Nat)):Int:=if iF ahead name≠0 then iF ahead name else if jD l≠0 then jD l else if lg f s l=true then 0 else 2
theorem BU (f s:Int) (a n c:List UInt8):0<=kC f s a n c:=by
 unfold kC;split
 ·exact Ap a n
 ·split
  ·exact Ed c
  ·split
   ·decide
   ·split<;>decide
theorem Le (f s:Int) (a n:List UInt8) (l:List (Int×Nat)):0<=oJ f s a n l:=by
 unfold oJ;split
 ·exact Ap a n
 ·split
  ·exact Lc l
  ·split<;>decide
theorem Aq {f s:Int} {a n c:List UInt8} (h:kC f s a n c=0):gQ n=0/\a<n/\dB c/\gF c ≠ []/\lg f s (gF c)=true:=by
 unfold kC at h;split at h
 ·rename_i h1;exact absurd h h1
 ·rename_i h1;split at h
  ·rename_i h2;exact absurd h h2
  ·rename_i h2;split at h
   ·cases h
   ·rename_i h3;split at h
    ·rename_i h4;exact⟨(Ee (Decidable.not_not.1 h1)).1,(Ee (Decidable.not_not.1 h1)).2,nX.1 (Decidable.not_not.1 h2),h3,h4⟩
    ·cases h
theorem VY {f s:Int} {a n c:List UInt8} (h1:gQ n=0) (h2:a<n) (h3:dB c) (h4:gF c ≠ []) (h5:lg f s (gF c)=true):kC f s a n c=0:=by
 have hn:iF a n=0:=by unfold iF;rw[if_neg (by rw[h1];decide),if_pos h2]
 unfold kC;rw[if_neg (by rw[hn];decide),if_neg (by rw[nX.2 h3];decide),if_neg h4,if_pos h5]
theorem VZ {f s:Int} {a n:List UInt8} {l:List (Int×Nat)} (h1:gQ n=0) (h2:a<n) (h3:jD l=0) (h5:lg f s l=true):oJ f s a n l=0:=by
 have hn:iF a n=0:=by unfold iF;rw[if_neg (by rw[h1];decide),if_pos h2]
 unfold oJ;rw[if_neg (by rw[hn];decide),if_neg (by rw[h3];decide),if_pos h5]
def prev (ss:List (List UInt8)) (i:Nat):List UInt8:=if i=0 then [] else ss.getD (i-1) []
noncomputable def iZ (f s:Int) (ss cs:List (List UInt8)) (i:Nat):Int:=kC f s (prev ss i) (ss.getD i []) (cs.getD i [])
noncomputable def rowAt (f s:Int) (rows:List (List UInt8×List (Int×Nat))) (i:Nat):Int:=oJ f s (prev (rows.map Prod.fst) i) ((rows.map Prod.fst).getD i []) ((rows.map Prod.snd).getD i [])
noncomputable def yY (f s:Int) (ss cs:List (List UInt8)):Nat:=mG (fun i=>decide (iZ f s ss cs i=0)) ss.length
noncomputable def Bq (f s:Int) (rows:List (List UInt8×List (Int×Nat))):Nat:=mG (fun i=>decide (rowAt f s rows i=0)) rows.length
noncomputable def iG (f s:Int) (ss cs:List (List UInt8)):Int:=if iy f s≠0\/60<ss.length then 2 else if cs.length≠ss.length then 3 else if yY f s ss cs<ss.length then iZ f s ss cs (yY f s ss cs) else 0
noncomputable def lT (f s:Int) (ss cs:List (List UInt8)):Int:=if iy f s≠0\/60<ss.length then -1 else if cs.length≠ss.length then -1 else if yY f s ss cs<ss.length then (yY f s ss cs:Int) else -1
noncomputable def zF (f s:Int) (rows:List (List UInt8×List (Int×Nat))):Int:=if iy f s≠0\/60<rows.length then 2 else if Bq f s rows<rows.length then rowAt f s rows (Bq f s rows) else 0
noncomputable def BX (f s:Int) (rows:List (List UInt8×List (Int×Nat))):Int:=if iy f s≠0\/60<rows.length then -1 else if Bq f s rows<rows.length then (Bq f s rows:Int) else -1
theorem JM {f s:Int} {ss cs:List (List UInt8)} (h:iy f s≠0\/60<ss.length):iG f s ss cs=2/\lT f s ss cs = -1:=by
 unfold iG lT;rw[if_pos h,if_pos h];exact⟨rfl,rfl⟩
theorem JN {f s:Int} {ss cs:List (List UInt8)} (h:¬ (iy f s≠0\/60<ss.length)) (h2:cs.length≠ss.length):iG f s ss cs=3/\lT f s ss cs = -1:=by
 unfold iG lT;rw[if_neg h,if_neg h,if_pos h2,if_pos h2];exact⟨rfl,rfl⟩
theorem UO {f s:Int} {ss cs:List (List UInt8)} (h:¬ (iy f s≠0\/60<ss.length)) (h2:cs.length=ss.length) {k:Nat} (hk:k<ss.length) (h3:∀ j,j<k->iZ f s ss cs j=0) (h4:iZ f s ss cs k≠0):iG f s ss cs=iZ f s ss cs k/\lT f s ss cs=k:=by
 have hb:yY f s ss cs=k:=nT _ _ _ (by omega) (fun j hj=>by simp[h3 j hj]) (fun _=>by simp[h4]);have h2':¬ (cs.length≠ss.length):=fun e=>e h2
 unfold iG lT;rw[if_neg h,if_neg h,if_neg h2',if_neg h2',hb,if_pos hk,if_pos hk];exact⟨rfl,rfl⟩
theorem EZ {f s:Int} {ss cs:List (List UInt8)} (h:¬ (iy f s≠0\/60<ss.length)) (h2:cs.length=ss.length) (h3:∀ j,j<ss.length->iZ f s ss cs j=0):iG f s ss cs=0/\lT f s ss cs = -1:=by
 have hb:yY f s ss cs=ss.length:=nT _ _ _ (Nat.le_refl _) (fun j hj=>by simp[h3 j hj]) (fun e=>absurd e (by omega));have h2':¬ (cs.length≠ss.length):=fun e=>e h2
 unfold iG lT;rw[if_neg h,if_neg h,if_neg h2',if_neg h2',hb,if_neg (by omega),if_neg (by omega)];exact⟨rfl,rfl⟩
theorem E5 {f s:Int} {ss cs:List (List UInt8)} (h:iG f s ss cs=0):iy f s=0/\ss.length<=60/\cs.length=ss.length/\∀ j,j<ss.length->iZ f s ss cs j=0:=by
 unfold iG at h;split at h
 ·cases h
 ·rename_i h1;split at h
  ·cases h
  ·rename_i h2;obtain⟨g,g1,g2⟩:=qK (fun i=>decide (iZ f s ss cs i=0)) ss.length;split at h
   ·rename_i h3;have:=g2 h3;rw[decide_eq_false_iff_not] at this;exact absurd h this
   ·rename_i h3;refine⟨Decidable.not_not.1 fun e=>h1 (.inl e),by omega,Decidable.not_not.1 h2,fun j hj=>?_⟩;have:=g1 j (by unfold yY at h3;omega);simpa using this
theorem NQ (f s:Int) (ss cs:List (List UInt8)):0<=iG f s ss cs:=by
 unfold iG;split
 ·decide
 ·split
  ·decide
  ·split
   ·exact BU ..
   ·decide
theorem SG {f s:Int} {rows:List (List UInt8×List (Int×Nat))} (h:iy f s≠0\/60<rows.length):zF f s rows=2/\BX f s rows = -1:=by
 unfold zF BX;rw[if_pos h,if_pos h];exact⟨rfl,rfl⟩
theorem ZX {f s:Int} {rows:List (List UInt8×List (Int×Nat))} (h:¬ (iy f s≠0\/60<rows.length)) {k:Nat} (hk:k<rows.length) (h3:∀ j,j<k->rowAt f s rows j=0) (h4:rowAt f s rows k≠0):zF f s rows=rowAt f s rows k/\BX f s rows=k:=by
 have hb:Bq f s rows=k:=nT _ _ _ (by omega) (fun j hj=>by simp[h3 j hj]) (fun _=>by simp[h4]);unfold zF BX;rw[if_neg h,if_neg h,hb,if_pos hk,if_pos hk];exact⟨rfl,rfl⟩
theorem Ma {f s:Int} {rows:List (List UInt8×List (Int×Nat))} (h:¬ (iy f s≠0\/60<rows.length)) (h3:∀ j,j<rows.length->rowAt f s rows j=0):zF f s rows=0/\BX f s rows = -1:=by
 have hb:Bq f s rows=rows.length:=nT _ _ _ (Nat.le_refl _) (fun j hj=>by simp[h3 j hj]) (fun e=>absurd e (by omega));unfold zF BX;rw[if_neg h,if_neg h,hb,if_neg (by omega),if_neg (by omega)];exact⟨rfl,rfl⟩
theorem NR {ss:List (List UInt8)} (h:∀ i,i<ss.length->prev ss i<ss.getD i []):ss.Pairwise (· < ·):=by
 rw[List.pairwise_iff_getElem];have step:∀ d i,(hd:i+d+1<ss.length)->ss[i]'(by omega)<ss[i+d+1]:=by
  intro d;induction d with
  | zero=>
   intro i hd;have:=h (i+1) hd;simp only[prev,Nat.add_sub_cancel,List.getD_eq_getElem?_getD] at this;rw[if_neg (by omega),List.getElem?_eq_getElem (by omega),List.getElem?_eq_getElem (by omega)] at this;exact this
  | succ d ih=>
   intro i hd;have h1:=ih i (by omega);have:=h (i+(d+1)+1) hd;simp only[prev,Nat.add_sub_cancel,List.getD_eq_getElem?_getD] at this;rw[if_neg (by omega),List.getElem?_eq_getElem (by omega),List.getElem?_eq_getElem (by omega)] at this;exact List.lt_trans h1 this
 intro i j hi hj hij;have:=step (j-i-1) i (by omega);have e:i+(j-i-1)+1=j:=by omega
 simp only[e] at this;exact this
theorem Ef {ss:List (List UInt8)} (h:ss.Pairwise (· < ·)) (h0:∀ x,x∈ss->gQ x=0):∀ i,i<ss.length->prev ss i<ss.getD i []:=by
 intro i hi;unfold prev;split
 ·exact Gi (h0 _ (JL ss _ i hi))
 ·rw[List.getD_eq_getElem?_getD,List.getD_eq_getElem?_getD,List.getElem?_eq_getElem (by omega),List.getElem?_eq_getElem hi];exact List.pairwise_iff_getElem.1 h (i-1) i (by omega) hi (by omega)
structure Ii (f s:Int) (rows:List (List UInt8×List (Int×Nat))):Prop where
 bd:iy f s=0
 len:rows.length<=60
 up:(rows.map Prod.fst).Pairwise (· < ·)
 each:∀ r,r∈rows->gQ r.1=0/\jD r.2=0/\lg f s r.2=true
theorem u6 {rows:List (List UInt8×List (Int×Nat))} {i:Nat} (hi:i<rows.length):(rows.map Prod.fst).getD i []=rows[i].1/\(rows.map Prod.snd).getD i []=rows[i].2:=by
 simp[List.getD_eq_getElem?_getD,hi]
theorem V3 {f s:Int} {rows:List (List UInt8×List (Int×Nat))} (h:Ii f s rows):zF f s rows=0/\BX f s rows = -1:=by
 refine Ma (fun e=>e.elim (fun e=>e h.bd) (fun e=>by have:=h.len;omega)) fun j hj=>?_
 have hm:=h.each _ (List.getElem_mem hj);refine VZ ?_ (Ef h.up (fun x hx=>?_) j (by simpa using hj)) ?_ ?_
 ·rw[(u6 hj).1];exact hm.1
 ·obtain⟨r,hr,rfl⟩:=List.mem_map.1 hx;exact (h.each r hr).1
 ·rw[(u6 hj).2];exact hm.2.1
 ·rw[(u6 hj).2];exact hm.2.2
noncomputable def rowsOf (ss cs:List (List UInt8)):List (List UInt8×List (Int×Nat)):=ss.zip (cs.map gF)
theorem lI {ss cs:List (List UInt8)} (h:cs.length=ss.length):(rowsOf ss cs).length=ss.length:=by simp[rowsOf,h]
theorem Eh {ss cs:List (List UInt8)} (h:cs.length=ss.length):(rowsOf ss cs).map Prod.fst=ss:=by
 unfold rowsOf;rw[List.map_fst_zip];simp[h]
theorem V4 {f s:Int} {ss cs:List (List UInt8)} (h:iG f s ss cs=0):cs.length=ss.length/\Ii f s (rowsOf ss cs)/\(∀ r,r∈rowsOf ss cs->r.2 ≠ []/\qM r.2)/\(rowsOf ss cs).map (fun r=>jw r.2)=cs:=by
 obtain⟨h1,h2,h3,h4⟩:=E5 h;have hl:=lI h3;have hat:∀ i (hi:i<(rowsOf ss cs).length),(rowsOf ss cs)[i].1=ss.getD i []/\(rowsOf ss cs)[i].2=gF (cs.getD i []):=fun i hi=>by
  rw[hl] at hi;have hi2:i<cs.length:=by omega
  constructor<;>simp[rowsOf,List.getD_eq_getElem?_getD,hi,hi2]
 have hz:∀ i (hi:i<(rowsOf ss cs).length),_:=fun i hi=>Aq (h4 i (by omega))
 refine⟨h3,⟨h1,by omega,by rw[Eh h3];exact NR fun i hi=>(Aq (h4 i hi)).2.1,fun r hr=>?_⟩,fun r hr=>?_,?_⟩
 ·obtain⟨i,hi,rfl⟩:=List.getElem_of_mem hr;rw[(hat i hi).1,(hat i hi).2];exact⟨(hz i hi).1,(rX (hz i hi).2.2.1).1,(hz i hi).2.2.2.2⟩
 ·obtain⟨i,hi,rfl⟩:=List.getElem_of_mem hr;rw[(hat i hi).2];exact⟨(hz i hi).2.2.2.1,(rX (hz i hi).2.2.1).2.1⟩
 ·refine List.ext_getElem (by simp[hl,h3]) fun i h5 h6=>?_
  have hi:i<(rowsOf ss cs).length:=by simpa using h5
  rw[List.getElem_map,(hat i hi).2,(rX (hz i hi).2.2.1).2.2];simp[List.getD_eq_getElem?_getD,h6]
theorem V5 {f s:Int} {rows:List (List UInt8×List (Int×Nat))} (h:Ii f s rows) (h0:∀ r,r∈rows->r.2 ≠ []/\qM r.2):iG f s (rows.map Prod.fst) (rows.map fun r=>jw r.2)=0/\lT f s (rows.map Prod.fst) (rows.map fun r=>jw r.2) = -1/\rowsOf (rows.map Prod.fst) (rows.map fun r=>jw r.2)=rows:=by
 have hun:∀ r,r∈rows->dB (jw r.2)/\gF (jw r.2)=r.2:=fun r hr=>⟨P8 (h.each r hr).2.1 (h0 r hr).2,EY (h.each r hr).2.1 (h0 r hr).2⟩
 have hg:=EZ (f:=f) (s:=s) (ss:=rows.map Prod.fst) (cs:=rows.map fun r=>jw r.2) (fun e=>e.elim (fun e=>e h.bd) (fun e=>by have:=h.len;simp at e;omega)) (by simp) fun j hj=>by
  have hj':j<rows.length:=by simpa using hj
  have hm:=List.getElem_mem hj';have e2:(rows.map fun r=>jw r.2).getD j []=jw rows[j].2:=by simp[List.getD_eq_getElem?_getD,hj']
  refine VY ?_ (Ef h.up (fun x hx=>?_) j hj) ?_ ?_ ?_
  ·rw[(u6 hj').1];exact (h.each _ hm).1
  ·obtain⟨r,hr,rfl⟩:=List.mem_map.1 hx;exact (h.each r hr).1
  ·rw[e2];exact (hun _ hm).1
  ·rw[e2,(hun _ hm).2];exact (h0 _ hm).1
  ·rw[e2,(hun _ hm).2];exact (h.each _ hm).2.2
 refine⟨hg.1,hg.2,?_⟩;refine List.ext_getElem (by simp[rowsOf]) fun i h5 h6=>?_
 have:=(hun _ (List.getElem_mem h6)).2;simp[rowsOf,this]
def full (rows:List (List UInt8×List (Int×Nat))):List (List UInt8×List (Int×Nat)):=rows.filter fun r=>decide (0<r.2.length)
theorem P9 (rows:List (List UInt8×List (Int×Nat))) (r:List UInt8×List (Int×Nat)):full (rows ++ [r])=if 0<r.2.length then full rows ++ [r] else full rows:=by
 unfold full;rw[List.filter_append];split<;>simp_all
end Go.Proofs.YtcemkhalbjhdkaaGreatDoor
namespace Go.Proofs.YtcemkhalbjhdkaaGreatDoor
open Go.RowKit aU
theorem Gj:∀ out:List (List UInt8×List UInt8),(∀ p,p∈out->p.1.length<=12/\p.2.length<=12)->(jR out).length<=26*out.length
 | [],_=>by simp[jR]
 | [p],h=>by
  have:=h p (by simp);simp[jR];omega
 | p::q::r,h=>by
  have h1:=h p (by simp);have h2:=Gj (q::r) fun x hx=>h x (by simp[hx])
  simp[jR] at h2 ⊢;omega
theorem Gl:∀ (out:List (List UInt8×List UInt8)) (c:UInt8),c∈jR out->c=44\/c=61\/∃ p,p∈out/\(c∈p.1\/c∈p.2)
 | [],c,h=>by simp[jR] at h
 | [p],c,h=>by
  simp[jR] at h;rcases h with h | h | h
  ·exact .inr (.inr ⟨p,by simp,.inl h⟩)
  ·exact .inr (.inl h)
  ·exact .inr (.inr ⟨p,by simp,.inr h⟩)
 | p::q::r,c,h=>by
  have ih:=Gl (q::r) c;rw[jR] at h;simp only[List.mem_append,List.mem_cons] at h;have hih:c∈jR (q::r)->c=44\/c=61\/∃ p',p'∈p::q::r/\(c∈p'.1\/c∈p'.2):=fun h=>by
   rcases ih h with h | h | ⟨x,hx,h⟩
   ·exact .inl h
   ·exact .inr (.inl h)
   ·exact .inr (.inr ⟨x,List.mem_cons_of_mem _ hx,h⟩)
  rcases h with (h | h | h) | h | h
  ·exact .inr (.inr ⟨p,by simp,.inl h⟩)
  ·exact .inr (.inl h)
  ·exact .inr (.inr ⟨p,by simp,.inr h⟩)
  ·exact .inl h
  ·exact hih h
theorem Mc {s:ByteArray} (h:isWord s=true):s.data.toList.length<=12/\∀ c,c∈s.data.toList->c≠64:=by
 unfold isWord at h;rw[Bool.and_eq_true,List.all_eq_true,decide_eq_true_eq] at h;refine⟨h.2.2,fun c hc=>?_⟩;have:=h.1 c hc;rintro rfl;revert this;decide
theorem Gm (s:List UInt8) (h:gQ s=0):(∀ c,c∈s->c≠64)/\s.length<=160:=by
 unfold gQ at h;cases hs:scan s [] [] [] false with
 | none=>rw[hs] at h;cases h
 | some out=>
  rw[hs] at h;dsimp only at h;obtain⟨h1,h6,_,hall⟩:=(JI _ _ _).2 h;have hb:=Pm s out hs;have hp:∀ p,p∈out->(p.1.length<=12/\∀ c,c∈p.1->c≠64)/\(p.2.length<=12/\∀ c,c∈p.2->c≠64):=fun p hp=>by
   obtain⟨i,hi,rfl⟩:=List.mem_iff_getElem.1 hp;have hk:=hall i hi;unfold jg at hk;rw[Bool.and_eq_true,Bool.and_eq_true] at hk;have hn:isWord (nameAt out i)=true:=by
    have:=hk.1.1;unfold isName at this;rw[Bool.and_eq_true] at this;exact this.1
   have e1:(nameAt out i).data.toList=(out[i]).1:=by simp[nameAt,txt,hi]
   have e2:(dG out i).data.toList=(out[i]).2:=by simp[dG,txt,hi]
   have w1:=Mc hn;have w2:=Mc hk.1.2;rw[e1] at w1;rw[e2] at w2;exact⟨w1,w2⟩
  rw[<-hb];refine⟨fun c hc=>?_,?_⟩
  ·rcases Gl out c hc with rfl | rfl | ⟨p,hpm,h | h⟩
   ·decide
   ·decide
   ·exact (hp p hpm).1.2 c h
   ·exact (hp p hpm).2.2 c h
  ·have:=Gj out fun p hpm=>⟨(hp p hpm).1.1,(hp p hpm).2.1⟩
   omega
theorem XM (s:List UInt8) (h:gQ s=0):(∀ c,c∈s->c≠64)/\s.length<=1000:=⟨(Gm s h).1,Nat.le_trans (Gm s h).2 (by decide)⟩
end Go.Proofs.YtcemkhalbjhdkaaGreatDoor
