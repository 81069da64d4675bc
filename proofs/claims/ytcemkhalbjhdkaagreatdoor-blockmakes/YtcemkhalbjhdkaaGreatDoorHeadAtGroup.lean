import Derived.Test.YtcemkhalbjhdkaaGreatDoorBitMathGroup
import Derived.Test.YtcemkhalbjhdkaaGreatDoorLabFaultGroup
import Derived.Test.YtcemkhalbjhdkaaGreatDoorPtListGroup
import Derived.Test.YtcemkhalbjhdkaaGreatDoorRows1Group
import Derived.Maps.OwnSet
import Derived.Maps.RangeWalk
import Derived.StringKeys
import Derived.Deep.QuietTactic
import Derived.BigQuiet
import Derived.Test.YtcemkhalbjhdkaaGreatDoorPtsOwn
import Derived.Test.YtcemkhalbjhdkaaGreatDoorRefReadGroup
namespace Go.Proofs.YtcemkhalbjhdkaaGreatDoor
open Go.RowKit Go.Maps lN aZ dB
theorem dD {w w':World} {base:Nat} {e:TypeId} {sz:Nat} {v:Value} {n:Nat} {xs:List Value} (h:w.ownsRow base e sz v n xs) (he:∀ g,v.ownBlock=some g->w'.heap[g]? = w.heap[g]?):w'.ownsRow base e sz v n xs:=by
 obtain⟨h1,h2⟩:=h;refine⟨h1,?_⟩;rcases h2 with h2 | ⟨g,cap,cur,hv,hg,hh,t⟩
 ·exact .inl h2
 ·exact .inr ⟨g,cap,cur,hv,hg,(he g (by rw[hv];rfl)).trans hh,t⟩
theorem bK {w:World} {base:Nat} {e:TypeId} {sz:Nat} {v:Value} {n:Nat} {xs:List Value} (h:w.ownsRow base e sz v n xs) {g:Nat} (hg:v.ownBlock=some g):base<=g/\g<w.heap.size/\∃ cur,w.heap[g]? = some (.cells cur e (0,0)):=by
 rcases h.2 with⟨hv,_⟩|⟨g',cap,cur,hv,hg',hh,_⟩
 ·rw[hv] at hg;cases hg
 ·rw[hv] at hg;simp[Value.ownBlock] at hg;subst hg;exact⟨hg',aL hh,cur,hh⟩
theorem sK {w:World} {a b:Nat} {cs ds:Array Value} {t u:TypeId} {f g:Nat×Nat} (ha:w.heap[a]? = some (.cells cs t f)) (hb:w.heap[b]? = some (.cells ds u g)) (hne:t≠u):a≠b:=fun e=>by
 subst e;rw[ha] at hb;injection hb with hb;injection hb with _ h2;exact hne h2
end Go.Proofs.YtcemkhalbjhdkaaGreatDoor
namespace Go.Proofs.YtcemkhalbjhdkaaGreatDoor
open Go.RowKit Go.Maps lN aZ dB
noncomputable def gP (l:List UInt8):Int:=match scan l [] [] [] false with | none=>1 | some out=>fC (nameAt out) (dI out) out.length
noncomputable def xP (l:List UInt8):Int:=match scan l [] [] [] false with | none=>-1 | some out=>fA (nameAt out) (dI out) out.length
theorem wQ (l:List UInt8):0<=gP l:=by
 unfold gP;split
 ·omega
 ·exact (Kr _ _ _).1
theorem QY {l nm vl:List UInt8} (h:scan l [] [] [] false=some [(nm,vl)]) (h1:isName (nameAt [(nm,vl)] 0)=true) (h2:isWord (dI [(nm,vl)] 0)=true):gP l=0:=by
 unfold gP;rw[h];refine Xc _ _ 1 (by omega) (by omega) fun i hi=>?_
 obtain rfl:i=0:=by omega
 unfold jm;rw[h1,h2];rfl
theorem Ua:gP [110,61,97]=0:=QY (nm:=[110]) (vl:=[97]) (by decide) (by decide) (by decide)
end Go.Proofs.YtcemkhalbjhdkaaGreatDoor
namespace Go.Proofs.YtcemkhalbjhdkaaGreatDoor
open Go.RowKit dB aZ
def iN (l:List (Int×Nat)):List UInt8:=bQ (gH l) (nP l) l.length
theorem qb (T:Nat->Int) (B:Nat->Nat) (n i:Nat) (h:i<n):gH (eY T B n) i=T i:=by simp[gH,eY,List.getD_eq_getElem?_getD,h]
theorem Kv (T:Nat->Int) (B:Nat->Nat) (n i:Nat) (h:i<n):nP (eY T B n) i=B i:=by simp[nP,eY,List.getD_eq_getElem?_getD,h]
theorem DT (T U:Nat->Int) (B C:Nat->Nat) (n:Nat) (hT:∀ i,i<n->T i=U i) (hB:∀ i,i<n->B i=C i):bQ T B n=bQ U C n:=by
 unfold bQ;rw[uP T U B C n hT hB]
theorem zK (T:Nat->Int) (B:Nat->Nat) (n:Nat):iN (eY T B n)=bQ T B n:=by
 unfold iN;rw[iO];exact DT _ _ _ _ _ (fun i hi=>qb T B n i hi) (fun i hi=>Kv T B n i hi)
noncomputable def Cq (l:List (Int×Nat)):Nat:=mJ (dY (gH l)) l.length
noncomputable def gT (l:List (Int×Nat)):Int:=if 120<l.length then 2 else if Cq l<l.length then (if bL (gH l (Cq l))=true then 8 else 2) else 0
theorem kM {l:List (Int×Nat)} (h:gT l=0):l.length<=120/\∀ i,i<l.length->dY (gH l) i=true:=by
 unfold gT at h;split at h
 ·cases h
 ·split at h
  ·split at h<;>cases h
  ·rename_i h1 h2;obtain⟨g,g1,_⟩:=mM (dY (gH l)) l.length;refine⟨by omega,fun i hi=>g1 i ?_⟩;unfold Cq at h2;omega
theorem yV {l:List (Int×Nat)} (h1:l.length<=120) (h2:∀ i,i<l.length->dY (gH l) i=true):gT l=0:=by
 have hb:Cq l=l.length:=oD _ _ _ (Nat.le_refl _) h2 (fun h=>absurd h (by omega));unfold gT;rw[if_neg (by omega),hb,if_neg (by omega)]
theorem C9 (l:List (Int×Nat)):0<=gT l:=by
 unfold gT;split
 ·decide
 ·split
  ·split<;>decide
  ·decide
def pO (l:List (Int×Nat)):Prop:=∀ p,p∈l->p.2<18446744073709551616
theorem Kw {α:Type} (l:List α) (d:α) (i:Nat) (h:i<l.length):l.getD i d∈l:=by
 rw[List.getD_eq_getElem?_getD,List.getElem?_eq_getElem h];exact List.getElem_mem h
theorem DU {l:List (Int×Nat)} (h:pO l) (i:Nat) (hi:i<l.length):nP l i<18446744073709551616:=h _ (Kw l _ i hi)
theorem QZ {l:List (Int×Nat)} (h:gT l=0) (hb:pO l):dG (iN l):=
 ⟨l.length,gH l,nP l,(kM h).1,(kM h).2,DU hb,rfl⟩
theorem Xe {l m:List (Int×Nat)} (hl:gT l=0) (hm:gT m=0) (bl:pO l) (bm:pO m) (h:iN l=iN m):l=m:=by
 obtain⟨a1,a2⟩:=kM hl;obtain⟨b1,b2⟩:=kM hm;obtain⟨e,e1,e2⟩:=OI _ _ _ _ _ _ a1 b1 a2 b2 (DU bl) (DU bm) h;refine List.ext_getElem e fun i h1 h2=>?_
 have t1:=e1 i h1;have t2:=e2 i h1;simp only[gH,nP,List.getD_eq_getElem?_getD,List.getElem?_eq_getElem h1,List.getElem?_eq_getElem h2,Option.getD_some] at t1 t2;exact Prod.ext t1 t2
theorem ET (c:List UInt8) (h:dG c):∃ l:List (Int×Nat),gT l=0/\pO l/\iN l=c:=by
 obtain⟨n,T,B,hn,hT,hB,e⟩:=h;refine⟨eY T B n,yV (by rw[iO];exact hn) (fun i hi=>?_),fun p hp=>?_,(zK T B n).trans e.symm⟩
 ·rw[iO] at hi;rw[qW _ T n (fun j hj=>qb T B n j hj) i hi];exact hT i hi
 ·simp[eY] at hp;obtain⟨i,hi,rfl⟩:=hp;exact hB i hi
open Classical in
noncomputable def nQ (c:List UInt8):Int:=if dG c then 0 else if c.length<5 then 1 else if aj.dL (c.take (c.length-4))=c then 1 else 9
open Classical in
noncomputable def gL (c:List UInt8):List (Int×Nat):=if h:dG c then (ET c h).choose else []
theorem sM {c:List UInt8} (h:dG c):gT (gL c)=0/\pO (gL c)/\iN (gL c)=c:=by
 unfold gL;rw[dif_pos h];exact (ET c h).choose_spec
theorem FZ {l:List (Int×Nat)} (h:gT l=0) (hb:pO l):gL (iN l)=l:=by
 obtain⟨h1,h2,h3⟩:=sM (QZ h hb);exact Xe h1 h h2 hb h3
theorem oF {c:List UInt8}:nQ c=0↔dG c:=by
 unfold nQ;constructor
 ·intro h;split at h
  ·assumption
  ·split at h
   ·cases h
   ·split at h<;>cases h
 ·intro h;rw[if_pos h]
theorem Nf {c:List UInt8} (h:¬ dG c):nQ c=(if c.length<5 then 1 else if aj.dL (c.take (c.length-4))=c then 1 else 9):=by
 unfold nQ;rw[if_neg h]
theorem EU (c:List UInt8):0<=nQ c:=by
 unfold nQ;split
 ·decide
 ·split
  ·decide
  ·split<;>decide
theorem Ml:gP []≠0:=by
 unfold gP;simp[scan]
theorem Bp {n:List UInt8} (h:gP n=0):([]:List UInt8)<n:=by
 cases n with
 | nil=>exact absurd h Ml
 | cons a r=>exact List.nil_lt_cons ..
noncomputable def gQ (ahead name:List UInt8):Int:=if gP name≠0 then gP name else if ahead<name then 0 else 3
theorem Bq (a n:List UInt8):0<=gQ a n:=by
 unfold gQ;split
 ·exact wQ n
 ·split<;>decide
theorem vM {a n:List UInt8} (h:gQ a n=0):gP n=0/\a<n:=by
 unfold gQ at h;split at h
 ·rename_i h1;exact absurd h h1
 ·rename_i h1;split at h
  ·rename_i h2;exact⟨Decidable.not_not.1 h1,h2⟩
  ·cases h
noncomputable def kH (f s:Int) (ahead name c:List UInt8):Int:=if gQ ahead name≠0 then gQ ahead name else if nQ c≠0 then nQ c else if gL c = [] then 5 else if jV f s (gL c)=true then 0 else 2
noncomputable def lq (f s:Int) (ahead name:List UInt8) (l:List (Int×Nat)):Int:=if gQ ahead name≠0 then gQ ahead name else if gT l≠0 then gT l else if jV f s l=true then 0 else 2
theorem Mq (f s:Int) (a n c:List UInt8):0<=kH f s a n c:=by
 unfold kH;split
 ·exact Bq a n
 ·split
  ·exact EU c
  ·split
   ·decide
   ·split<;>decide
theorem Da (f s:Int) (a n:List UInt8) (l:List (Int×Nat)):0<=lq f s a n l:=by
 unfold lq;split
 ·exact Bq a n
 ·split
  ·exact C9 l
  ·split<;>decide
theorem Br {f s:Int} {a n c:List UInt8} (h:kH f s a n c=0):gP n=0/\a<n/\dG c/\gL c ≠ []/\jV f s (gL c)=true:=by
 unfold kH at h;split at h
 ·rename_i h1;exact absurd h h1
 ·rename_i h1;split at h
  ·rename_i h2;exact absurd h h2
  ·rename_i h2;split at h
   ·cases h
   ·rename_i h3;split at h
    ·rename_i h4;exact⟨(vM (Decidable.not_not.1 h1)).1,(vM (Decidable.not_not.1 h1)).2,oF.1 (Decidable.not_not.1 h2),h3,h4⟩
    ·cases h
theorem Xf {f s:Int} {a n c:List UInt8} (h1:gP n=0) (h2:a<n) (h3:dG c) (h4:gL c ≠ []) (h5:jV f s (gL c)=true):kH f s a n c=0:=by
 have hn:gQ a n=0:=by unfold gQ;rw[if_neg (by rw[h1];decide),if_pos h2]
 unfold kH;rw[if_neg (by rw[hn];decide),if_neg (by rw[oF.2 h3];decide),if_neg h4,if_pos h5]
theorem G5 {f s:Int} {a n:List UInt8} {l:List (Int×Nat)} (h:lq f s a n l=0):gP n=0/\a<n/\gT l=0/\jV f s l=true:=by
 unfold lq at h;split at h
 ·rename_i h1;exact absurd h h1
 ·rename_i h1;split at h
  ·rename_i h2;exact absurd h h2
  ·rename_i h2;split at h
   ·rename_i h4;exact⟨(vM (Decidable.not_not.1 h1)).1,(vM (Decidable.not_not.1 h1)).2,Decidable.not_not.1 h2,h4⟩
   ·cases h
theorem Xg {f s:Int} {a n:List UInt8} {l:List (Int×Nat)} (h1:gP n=0) (h2:a<n) (h3:gT l=0) (h5:jV f s l=true):lq f s a n l=0:=by
 have hn:gQ a n=0:=by unfold gQ;rw[if_neg (by rw[h1];decide),if_pos h2]
 unfold lq;rw[if_neg (by rw[hn];decide),if_neg (by rw[h3];decide),if_pos h5]
def prev (ss:List (List UInt8)) (i:Nat):List UInt8:=if i=0 then [] else ss.getD (i-1) []
noncomputable def jg (f s:Int) (ss cs:List (List UInt8)) (i:Nat):Int:=kH f s (prev ss i) (ss.getD i []) (cs.getD i [])
noncomputable def rowAt (f s:Int) (rows:List (List UInt8×List (Int×Nat))) (i:Nat):Int:=lq f s (prev (rows.map Prod.fst) i) ((rows.map Prod.fst).getD i []) ((rows.map Prod.snd).getD i [])
noncomputable def zL (f s:Int) (ss cs:List (List UInt8)):Nat:=mJ (fun i=>decide (jg f s ss cs i=0)) ss.length
noncomputable def zM (f s:Int) (rows:List (List UInt8×List (Int×Nat))):Nat:=mJ (fun i=>decide (rowAt f s rows i=0)) rows.length
noncomputable def jc (f s:Int) (ss cs:List (List UInt8)):Int:=if fZ f s≠0\/60<ss.length then 2 else if cs.length≠ss.length then 3 else if zL f s ss cs<ss.length then jg f s ss cs (zL f s ss cs) else 0
noncomputable def l6 (f s:Int) (ss cs:List (List UInt8)):Int:=if fZ f s≠0\/60<ss.length then -1 else if cs.length≠ss.length then -1 else if zL f s ss cs<ss.length then (zL f s ss cs:Int) else -1
noncomputable def jK (f s:Int) (rows:List (List UInt8×List (Int×Nat))):Int:=if fZ f s≠0\/60<rows.length then 2 else if zM f s rows<rows.length then rowAt f s rows (zM f s rows) else 0
noncomputable def qG (f s:Int) (rows:List (List UInt8×List (Int×Nat))):Int:=if fZ f s≠0\/60<rows.length then -1 else if zM f s rows<rows.length then (zM f s rows:Int) else -1
theorem Ky {f s:Int} {ss cs:List (List UInt8)} (h:fZ f s≠0\/60<ss.length):jc f s ss cs=2/\l6 f s ss cs = -1:=by
 unfold jc l6;rw[if_pos h,if_pos h];exact⟨rfl,rfl⟩
theorem Kz {f s:Int} {ss cs:List (List UInt8)} (h:¬ (fZ f s≠0\/60<ss.length)) (h2:cs.length≠ss.length):jc f s ss cs=3/\l6 f s ss cs = -1:=by
 unfold jc l6;rw[if_neg h,if_neg h,if_pos h2,if_pos h2];exact⟨rfl,rfl⟩
theorem VL {f s:Int} {ss cs:List (List UInt8)} (h:¬ (fZ f s≠0\/60<ss.length)) (h2:cs.length=ss.length) {k:Nat} (hk:k<ss.length) (h3:∀ j,j<k->jg f s ss cs j=0) (h4:jg f s ss cs k≠0):jc f s ss cs=jg f s ss cs k/\l6 f s ss cs=k:=by
 have hb:zL f s ss cs=k:=oD _ _ _ (by omega) (fun j hj=>by simp[h3 j hj]) (fun _=>by simp[h4]);have h2':¬ (cs.length≠ss.length):=fun e=>e h2
 unfold jc l6;rw[if_neg h,if_neg h,if_neg h2',if_neg h2',hb,if_pos hk,if_pos hk];exact⟨rfl,rfl⟩
theorem F3 {f s:Int} {ss cs:List (List UInt8)} (h:¬ (fZ f s≠0\/60<ss.length)) (h2:cs.length=ss.length) (h3:∀ j,j<ss.length->jg f s ss cs j=0):jc f s ss cs=0/\l6 f s ss cs = -1:=by
 have hb:zL f s ss cs=ss.length:=oD _ _ _ (Nat.le_refl _) (fun j hj=>by simp[h3 j hj]) (fun e=>absurd e (by omega));have h2':¬ (cs.length≠ss.length):=fun e=>e h2
 unfold jc l6;rw[if_neg h,if_neg h,if_neg h2',if_neg h2',hb,if_neg (by omega),if_neg (by omega)];exact⟨rfl,rfl⟩
theorem Cr {f s:Int} {ss cs:List (List UInt8)} (h:jc f s ss cs=0):fZ f s=0/\ss.length<=60/\cs.length=ss.length/\∀ j,j<ss.length->jg f s ss cs j=0:=by
 unfold jc at h;split at h
 ·cases h
 ·rename_i h1;split at h
  ·cases h
  ·rename_i h2;obtain⟨g,g1,g2⟩:=mM (fun i=>decide (jg f s ss cs i=0)) ss.length;split at h
   ·rename_i h3;have:=g2 h3;rw[decide_eq_false_iff_not] at this;exact absurd h this
   ·rename_i h3;refine⟨Decidable.not_not.1 fun e=>h1 (.inl e),by omega,Decidable.not_not.1 h2,fun j hj=>?_⟩;have:=g1 j (by unfold zL at h3;omega);simpa using this
theorem KA {f s:Int} {rows:List (List UInt8×List (Int×Nat))} (h:fZ f s≠0\/60<rows.length):jK f s rows=2/\qG f s rows = -1:=by
 unfold jK qG;rw[if_pos h,if_pos h];exact⟨rfl,rfl⟩
theorem VN {f s:Int} {rows:List (List UInt8×List (Int×Nat))} (h:¬ (fZ f s≠0\/60<rows.length)) {k:Nat} (hk:k<rows.length) (h3:∀ j,j<k->rowAt f s rows j=0) (h4:rowAt f s rows k≠0):jK f s rows=rowAt f s rows k/\qG f s rows=k:=by
 have hb:zM f s rows=k:=oD _ _ _ (by omega) (fun j hj=>by simp[h3 j hj]) (fun _=>by simp[h4]);unfold jK qG;rw[if_neg h,if_neg h,hb,if_pos hk,if_pos hk];exact⟨rfl,rfl⟩
theorem F4 {f s:Int} {rows:List (List UInt8×List (Int×Nat))} (h:¬ (fZ f s≠0\/60<rows.length)) (h3:∀ j,j<rows.length->rowAt f s rows j=0):jK f s rows=0/\qG f s rows = -1:=by
 have hb:zM f s rows=rows.length:=oD _ _ _ (Nat.le_refl _) (fun j hj=>by simp[h3 j hj]) (fun e=>absurd e (by omega));unfold jK qG;rw[if_neg h,if_neg h,hb,if_neg (by omega),if_neg (by omega)];exact⟨rfl,rfl⟩
theorem mk_zero {f s:Int} {rows:List (List UInt8×List (Int×Nat))} (h:jK f s rows=0):fZ f s=0/\rows.length<=60/\∀ j,j<rows.length->rowAt f s rows j=0:=by
 unfold jK at h;split at h
 ·cases h
 ·rename_i h1;obtain⟨g,g1,g2⟩:=mM (fun i=>decide (rowAt f s rows i=0)) rows.length;split at h
  ·rename_i h3;have:=g2 h3;rw[decide_eq_false_iff_not] at this;exact absurd h this
  ·rename_i h3;refine⟨Decidable.not_not.1 fun e=>h1 (.inl e),by omega,fun j hj=>?_⟩;have:=g1 j (by unfold zM at h3;omega);simpa using this
theorem OV (f s:Int) (rows:List (List UInt8×List (Int×Nat))):0<=jK f s rows:=by
 unfold jK;split
 ·decide
 ·split
  ·exact Da ..
  ·decide
theorem EW {ss:List (List UInt8)} (h:∀ i,i<ss.length->prev ss i<ss.getD i []):ss.Pairwise (· < ·):=by
 rw[List.pairwise_iff_getElem];have step:∀ d i,(hd:i+d+1<ss.length)->ss[i]'(by omega)<ss[i+d+1]:=by
  intro d;induction d with
  | zero=>
   intro i hd;have:=h (i+1) hd;simp only[prev,Nat.add_sub_cancel,List.getD_eq_getElem?_getD] at this;rw[if_neg (by omega),List.getElem?_eq_getElem (by omega),List.getElem?_eq_getElem (by omega)] at this;exact this
  | succ d ih=>
   intro i hd;have h1:=ih i (by omega);have:=h (i+(d+1)+1) hd;simp only[prev,Nat.add_sub_cancel,List.getD_eq_getElem?_getD] at this;rw[if_neg (by omega),List.getElem?_eq_getElem (by omega),List.getElem?_eq_getElem (by omega)] at this;exact List.lt_trans h1 this
 intro i j hi hj hij;have:=step (j-i-1) i (by omega);have e:i+(j-i-1)+1=j:=by omega
 simp only[e] at this;exact this
theorem EX {ss:List (List UInt8)} (h:ss.Pairwise (· < ·)) (h0:∀ x,x∈ss->gP x=0):∀ i,i<ss.length->prev ss i<ss.getD i []:=by
 intro i hi;unfold prev;split
 ·exact Bp (h0 _ (Kw ss _ i hi))
 ·rw[List.getD_eq_getElem?_getD,List.getD_eq_getElem?_getD,List.getElem?_eq_getElem (by omega),List.getElem?_eq_getElem hi];exact List.pairwise_iff_getElem.1 h (i-1) i (by omega) hi (by omega)
structure vN (f s:Int) (rows:List (List UInt8×List (Int×Nat))):Prop where
 bd:fZ f s=0
 len:rows.length<=60
 up:(rows.map Prod.fst).Pairwise (· < ·)
 each:∀ r,r∈rows->gP r.1=0/\gT r.2=0/\jV f s r.2=true
theorem l7 {rows:List (List UInt8×List (Int×Nat))} {i:Nat} (hi:i<rows.length):(rows.map Prod.fst).getD i []=rows[i].1/\(rows.map Prod.snd).getD i []=rows[i].2:=by
 simp[List.getD_eq_getElem?_getD,hi]
theorem Ng {f s:Int} {rows:List (List UInt8×List (Int×Nat))} (h:jK f s rows=0):vN f s rows:=by
 obtain⟨h1,h2,h3⟩:=mk_zero h;refine⟨h1,h2,EW fun i hi=>(G5 (h3 i (by simpa using hi))).2.1,fun r hr=>?_⟩;obtain⟨i,hi,rfl⟩:=List.getElem_of_mem hr;obtain⟨a,_,b,c⟩:=G5 (h3 i hi);rw[(l7 hi).1] at a;rw[(l7 hi).2] at b c;exact⟨a,b,c⟩
theorem Nh {f s:Int} {rows:List (List UInt8×List (Int×Nat))} (h:vN f s rows):jK f s rows=0/\qG f s rows = -1:=by
 refine F4 (fun e=>e.elim (fun e=>e h.bd) (fun e=>by have:=h.len;omega)) fun j hj=>?_
 have hm:=h.each _ (List.getElem_mem hj);refine Xg ?_ (EX h.up (fun x hx=>?_) j (by simpa using hj)) ?_ ?_
 ·rw[(l7 hj).1];exact hm.1
 ·obtain⟨r,hr,rfl⟩:=List.mem_map.1 hx;exact (h.each r hr).1
 ·rw[(l7 hj).2];exact hm.2.1
 ·rw[(l7 hj).2];exact hm.2.2
noncomputable def rowsOf (ss cs:List (List UInt8)):List (List UInt8×List (Int×Nat)):=ss.zip (cs.map gL)
theorem oM {ss cs:List (List UInt8)} (h:cs.length=ss.length):(rowsOf ss cs).length=ss.length:=by simp[rowsOf,h]
theorem EY {ss cs:List (List UInt8)} (h:cs.length=ss.length):(rowsOf ss cs).map Prod.fst=ss:=by
 unfold rowsOf;rw[List.map_fst_zip];simp[h]
theorem Xh {f s:Int} {ss cs:List (List UInt8)} (h:jc f s ss cs=0):cs.length=ss.length/\vN f s (rowsOf ss cs)/\(∀ r,r∈rowsOf ss cs->r.2 ≠ []/\pO r.2)/\(rowsOf ss cs).map (fun r=>iN r.2)=cs:=by
 obtain⟨h1,h2,h3,h4⟩:=Cr h;have hl:=oM h3;have hat:∀ i (hi:i<(rowsOf ss cs).length),(rowsOf ss cs)[i].1=ss.getD i []/\(rowsOf ss cs)[i].2=gL (cs.getD i []):=fun i hi=>by
  rw[hl] at hi;have hi2:i<cs.length:=by omega
  constructor<;>simp[rowsOf,List.getD_eq_getElem?_getD,hi,hi2]
 have hz:∀ i (hi:i<(rowsOf ss cs).length),_:=fun i hi=>Br (h4 i (by omega))
 refine⟨h3,⟨h1,by omega,by rw[EY h3];exact EW fun i hi=>(Br (h4 i hi)).2.1,fun r hr=>?_⟩,fun r hr=>?_,?_⟩
 ·obtain⟨i,hi,rfl⟩:=List.getElem_of_mem hr;rw[(hat i hi).1,(hat i hi).2];exact⟨(hz i hi).1,(sM (hz i hi).2.2.1).1,(hz i hi).2.2.2.2⟩
 ·obtain⟨i,hi,rfl⟩:=List.getElem_of_mem hr;rw[(hat i hi).2];exact⟨(hz i hi).2.2.2.1,(sM (hz i hi).2.2.1).2.1⟩
 ·refine List.ext_getElem (by simp[hl,h3]) fun i h5 h6=>?_
  have hi:i<(rowsOf ss cs).length:=by simpa using h5
  rw[List.getElem_map,(hat i hi).2,(sM (hz i hi).2.2.1).2.2];simp[List.getD_eq_getElem?_getD,h6]
theorem Ni {f s:Int} {rows:List (List UInt8×List (Int×Nat))} (h:vN f s rows) (h0:∀ r,r∈rows->r.2 ≠ []/\pO r.2):jc f s (rows.map Prod.fst) (rows.map fun r=>iN r.2)=0/\l6 f s (rows.map Prod.fst) (rows.map fun r=>iN r.2) = -1/\rowsOf (rows.map Prod.fst) (rows.map fun r=>iN r.2)=rows:=by
 have hun:∀ r,r∈rows->dG (iN r.2)/\gL (iN r.2)=r.2:=fun r hr=>⟨QZ (h.each r hr).2.1 (h0 r hr).2,FZ (h.each r hr).2.1 (h0 r hr).2⟩
 have hg:=F3 (f:=f) (s:=s) (ss:=rows.map Prod.fst) (cs:=rows.map fun r=>iN r.2) (fun e=>e.elim (fun e=>e h.bd) (fun e=>by have:=h.len;simp at e;omega)) (by simp) fun j hj=>by
  have hj':j<rows.length:=by simpa using hj
  have hm:=List.getElem_mem hj';have e2:(rows.map fun r=>iN r.2).getD j []=iN rows[j].2:=by simp[List.getD_eq_getElem?_getD,hj']
  refine Xf ?_ (EX h.up (fun x hx=>?_) j hj) ?_ ?_ ?_
  ·rw[(l7 hj').1];exact (h.each _ hm).1
  ·obtain⟨r,hr,rfl⟩:=List.mem_map.1 hx;exact (h.each r hr).1
  ·rw[e2];exact (hun _ hm).1
  ·rw[e2,(hun _ hm).2];exact (h0 _ hm).1
  ·rw[e2,(hun _ hm).2];exact (h.each _ hm).2.2
 refine⟨hg.1,hg.2,?_⟩;refine List.ext_getElem (by simp[rowsOf]) fun i h5 h6=>?_
 have:=(hun _ (List.getElem_mem h6)).2;simp[rowsOf,this]
def full (rows:List (List UInt8×List (Int×Nat))):List (List UInt8×List (Int×Nat)):=rows.filter fun r=>decide (0<r.2.length)
theorem sN {rows:List (List UInt8×List (Int×Nat))} {r:List UInt8×List (Int×Nat)} (h:r∈full rows):r∈rows/\r.2 ≠ []:=by
 simp[full] at h;exact⟨h.1,fun e=>by rw[e] at h;simp at h⟩
theorem vN.full {f s:Int} {rows:List (List UInt8×List (Int×Nat))} (h:vN f s rows):vN f s (full rows):=
 ⟨h.bd,Nat.le_trans (List.length_filter_le ..) h.len,h.up.sublist (List.filter_sublist.map _),fun r hr=>h.each r (sN hr).1⟩
theorem Q0 {rows:List (List UInt8×List (Int×Nat))} (h:∀ r,r∈rows->r.2 ≠ []):full rows=rows:=by
 unfold full;rw[List.filter_eq_self];intro r hr;simp[List.length_pos_iff,h r hr]
theorem G6 (rows:List (List UInt8×List (Int×Nat))) (r:List UInt8×List (Int×Nat)):full (rows ++ [r])=if 0<r.2.length then full rows ++ [r] else full rows:=by
 unfold full;rw[List.filter_append];split<;>simp_all
end Go.Proofs.YtcemkhalbjhdkaaGreatDoor
namespace Go.Proofs.YtcemkhalbjhdkaaGreatDoor
open Go.RowKit aZ
theorem He:∀ (out:List (List UInt8×List UInt8)) (c:UInt8),c∈lU out->c=44\/c=61\/∃ p,p∈out/\(c∈p.1\/c∈p.2)
 | [],c,h=>by simp[lU] at h
 | [p],c,h=>by
  simp[lU] at h;rcases h with h | h | h
  ·exact .inr (.inr ⟨p,by simp,.inl h⟩)
  ·exact .inr (.inl h)
  ·exact .inr (.inr ⟨p,by simp,.inr h⟩)
 | p::q::r,c,h=>by
  have ih:=He (q::r) c;rw[lU] at h;simp only[List.mem_append,List.mem_cons] at h;have hih:c∈lU (q::r)->c=44\/c=61\/∃ p',p'∈p::q::r/\(c∈p'.1\/c∈p'.2):=fun h=>by
   rcases ih h with h | h | ⟨x,hx,h⟩
   ·exact .inl h
   ·exact .inr (.inl h)
   ·exact .inr (.inr ⟨x,List.mem_cons_of_mem _ hx,h⟩)
  rcases h with (h | h | h) | h | h
  ·exact .inr (.inr ⟨p,by simp,.inl h⟩)
  ·exact .inr (.inl h)
  ·exact .inr (.inr ⟨p,by simp,.inr h⟩)
  ·exact .inl h
  ·exact hih h
end Go.Proofs.YtcemkhalbjhdkaaGreatDoor
