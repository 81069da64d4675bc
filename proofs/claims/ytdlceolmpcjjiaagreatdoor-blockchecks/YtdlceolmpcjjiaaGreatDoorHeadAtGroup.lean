import Derived.Test.YtdlceolmpcjjiaaGreatDoorBitMathGroup
import Derived.Test.YtdlceolmpcjjiaaGreatDoorLabFaultGroup
import Derived.Test.YtdlceolmpcjjiaaGreatDoorPtListGroup
import Derived.Test.YtdlceolmpcjjiaaGreatDoorRows1Group
import Derived.Maps.OwnSet
import Derived.Maps.RangeWalk
import Derived.StringKeys
import Derived.Deep.QuietTactic
import Derived.BigQuiet
import Derived.Test.YtdlceolmpcjjiaaGreatDoorPtsOwn
import Derived.Test.YtdlceolmpcjjiaaGreatDoorRefReadGroup
namespace Go.Proofs.YtdlceolmpcjjiaaGreatDoor
open Go.RowKit Go.Maps jW bF bT
def zi (v:Value):Option (DataW Value×List MemPlace):=some (.held v,[])
theorem I7:Keyed Tryz.prog 9:=string_keyed Tryz.underlying9
theorem qh {w w':World} {b n:Nat} {D:DataW Value} (h:w.ownsMap Tryz.prog 9 zi b n D) (he:w'.heap[b]? = w.heap[b]?):w'.ownsMap Tryz.prog 9 zi b n D:=by
 obtain⟨es,clock,hb,rest⟩:=h;exact⟨es,clock,he.trans hb,rest⟩
theorem dB {w w':World} {base:Nat} {e:TypeId} {sz:Nat} {v:Value} {n:Nat} {xs:List Value} (h:w.ownsRow base e sz v n xs) (he:∀ g,v.ownBlock=some g->w'.heap[g]? = w.heap[g]?):w'.ownsRow base e sz v n xs:=by
 obtain⟨h1,h2⟩:=h;refine⟨h1,?_⟩;rcases h2 with h2 | ⟨g,cap,cur,hv,hg,hh,t⟩
 ·exact .inl h2
 ·exact .inr ⟨g,cap,cur,hv,hg,(he g (by rw[hv];rfl)).trans hh,t⟩
theorem bE {w:World} {base:Nat} {e:TypeId} {sz:Nat} {v:Value} {n:Nat} {xs:List Value} (h:w.ownsRow base e sz v n xs) {g:Nat} (hg:v.ownBlock=some g):base<=g/\g<w.heap.size/\∃ cur,w.heap[g]? = some (.cells cur e (0,0)):=by
 rcases h.2 with⟨hv,_⟩|⟨g',cap,cur,hv,hg',hh,_⟩
 ·rw[hv] at hg;cases hg
 ·rw[hv] at hg;simp[Value.ownBlock] at hg;subst hg;exact⟨hg',aH hh,cur,hh⟩
theorem Hf (s:ByteArray) (hs:s.size<=1000):keyOf Tryz.prog 9 (.string s)=some (.string s.data.toList):=Go.WideMaps.keyOf_string_mk Tryz.underlying9 (by unfold maxLen;omega)
theorem rU {w:World} {a b:Nat} {cs ds:Array Value} {t u:TypeId} {f g:Nat×Nat} (ha:w.heap[a]? = some (.cells cs t f)) (hb:w.heap[b]? = some (.cells ds u g)) (hne:t≠u):a≠b:=fun e=>by
 subst e;rw[ha] at hb;injection hb with hb;injection hb with _ h2;exact hne h2
end Go.Proofs.YtdlceolmpcjjiaaGreatDoor
namespace Go.Proofs.YtdlceolmpcjjiaaGreatDoor
open Go.RowKit Go.Maps jW bF bT
noncomputable def gV (l:List UInt8):Int:=match scan l [] [] [] false with | none=>1 | some out=>fC (nameAt out) (dO out) out.length
noncomputable def zk (l:List UInt8):Int:=match scan l [] [] [] false with | none=>-1 | some out=>fA (nameAt out) (dO out) out.length
theorem yG (l:List UInt8):0<=gV l:=by
 unfold gV;split
 ·omega
 ·exact (MJ _ _ _).1
theorem TI {l nm vl:List UInt8} (h:scan l [] [] [] false=some [(nm,vl)]) (h1:isName (nameAt [(nm,vl)] 0)=true) (h2:isWord (dO [(nm,vl)] 0)=true):gV l=0:=by
 unfold gV;rw[h];refine Zn _ _ 1 (by omega) (by omega) fun i hi=>?_
 obtain rfl:i=0:=by omega
 unfold jw;rw[h1,h2];rfl
theorem Wm:gV [110,61,97]=0:=TI (nm:=[110]) (vl:=[97]) (by decide) (by decide) (by decide)
end Go.Proofs.YtdlceolmpcjjiaaGreatDoor
namespace Go.Proofs.YtdlceolmpcjjiaaGreatDoor
open Go.RowKit bT bF
def iL (l:List (Int×Nat)):List UInt8:=bV (dZ l) (pE l) l.length
theorem rE (T:Nat->Int) (B:Nat->Nat) (n i:Nat) (h:i<n):dZ (kD T B n) i=T i:=by simp[dZ,kD,List.getD_eq_getElem?_getD,h]
theorem ML (T:Nat->Int) (B:Nat->Nat) (n i:Nat) (h:i<n):pE (kD T B n) i=B i:=by simp[pE,kD,List.getD_eq_getElem?_getD,h]
theorem FV (T U:Nat->Int) (B C:Nat->Nat) (n:Nat) (hT:∀ i,i<n->T i=U i) (hB:∀ i,i<n->B i=C i):bV T B n=bV U C n:=by
 unfold bV;rw[wL T U B C n hT hB]
theorem Br (T:Nat->Int) (B:Nat->Nat) (n:Nat):iL (kD T B n)=bV T B n:=by
 unfold iL;rw[iY];exact FV _ _ _ _ _ (fun i hi=>rE T B n i hi) (fun i hi=>ML T B n i hi)
noncomputable def Et (l:List (Int×Nat)):Nat:=nT (eu (dZ l)) l.length
noncomputable def fG (l:List (Int×Nat)):Int:=if 120<l.length then 2 else if Et l<l.length then (if bO (dZ l (Et l))=true then 8 else 2) else 0
theorem fE {l:List (Int×Nat)} (h:fG l=0):l.length<=120/\∀ i,i<l.length->eu (dZ l) i=true:=by
 unfold fG at h;split at h
 ·cases h
 ·split at h
  ·split at h<;>cases h
  ·rename_i h1 h2;obtain⟨g,g1,_⟩:=nZ (eu (dZ l)) l.length;refine⟨by omega,fun i hi=>g1 i ?_⟩;unfold Et at h2;omega
theorem xP {l:List (Int×Nat)} (h1:l.length<=120) (h2:∀ i,i<l.length->eu (dZ l) i=true):fG l=0:=by
 have hb:Et l=l.length:=qg _ _ _ (Nat.le_refl _) h2 (fun h=>absurd h (by omega));unfold fG;rw[if_neg (by omega),hb,if_neg (by omega)]
theorem E5 (l:List (Int×Nat)):0<=fG l:=by
 unfold fG;split
 ·decide
 ·split
  ·split<;>decide
  ·decide
def mq (l:List (Int×Nat)):Prop:=∀ p,p∈l->p.2<18446744073709551616
theorem Bu {α:Type} (l:List α) (d:α) (i:Nat) (h:i<l.length):l.getD i d∈l:=by
 rw[List.getD_eq_getElem?_getD,List.getElem?_eq_getElem h];exact List.getElem_mem h
theorem FW {l:List (Int×Nat)} (h:mq l) (i:Nat) (hi:i<l.length):pE l i<18446744073709551616:=h _ (Bu l _ i hi)
theorem TJ {l:List (Int×Nat)} (h:fG l=0) (hb:mq l):dJ (iL l):=
 ⟨l.length,dZ l,pE l,(fE h).1,(fE h).2,FW hb,rfl⟩
theorem Zo {l m:List (Int×Nat)} (hl:fG l=0) (hm:fG m=0) (bl:mq l) (bm:mq m) (h:iL l=iL m):l=m:=by
 obtain⟨a1,a2⟩:=fE hl;obtain⟨b1,b2⟩:=fE hm;obtain⟨e,e1,e2⟩:=Rb _ _ _ _ _ _ a1 b1 a2 b2 (FW bl) (FW bm) h;refine List.ext_getElem e fun i h1 h2=>?_
 have t1:=e1 i h1;have t2:=e2 i h1;simp only[dZ,pE,List.getD_eq_getElem?_getD,List.getElem?_eq_getElem h1,List.getElem?_eq_getElem h2,Option.getD_some] at t1 t2;exact Prod.ext t1 t2
theorem Hg (c:List UInt8) (h:dJ c):∃ l:List (Int×Nat),fG l=0/\mq l/\iL l=c:=by
 obtain⟨n,T,B,hn,hT,hB,e⟩:=h;refine⟨kD T B n,xP (by rw[iY];exact hn) (fun i hi=>?_),fun p hp=>?_,(Br T B n).trans e.symm⟩
 ·rw[iY] at hi;rw[sZ _ T n (fun j hj=>rE T B n j hj) i hi];exact hT i hi
 ·simp[kD] at hp;obtain⟨i,hi,rfl⟩:=hp;exact hB i hi
open Classical in
noncomputable def pF (c:List UInt8):Int:=if dJ c then 0 else if c.length<5 then 1 else if aj.dQ (c.take (c.length-4))=c then 1 else 9
open Classical in
noncomputable def gX (c:List UInt8):List (Int×Nat):=if h:dJ c then (Hg c h).choose else []
theorem uX {c:List UInt8} (h:dJ c):fG (gX c)=0/\mq (gX c)/\iL (gX c)=c:=by
 unfold gX;rw[dif_pos h];exact (Hg c h).choose_spec
theorem I8 {l:List (Int×Nat)} (h:fG l=0) (hb:mq l):gX (iL l)=l:=by
 obtain⟨h1,h2,h3⟩:=uX (TJ h hb);exact Zo h1 h h2 hb h3
theorem qj {c:List UInt8}:pF c=0↔dJ c:=by
 unfold pF;constructor
 ·intro h;split at h
  ·assumption
  ·split at h
   ·cases h
   ·split at h<;>cases h
 ·intro h;rw[if_pos h]
theorem Pz {c:List UInt8} (h:¬ dJ c):pF c=(if c.length<5 then 1 else if aj.dQ (c.take (c.length-4))=c then 1 else 9):=by
 unfold pF;rw[if_neg h]
theorem Hl (c:List UInt8):0<=pF c:=by
 unfold pF;split
 ·decide
 ·split
  ·decide
  ·split<;>decide
theorem OV:gV []≠0:=by
 unfold gV;simp[scan]
theorem Dj {n:List UInt8} (h:gV n=0):([]:List UInt8)<n:=by
 cases n with
 | nil=>exact absurd h OV
 | cons a r=>exact List.nil_lt_cons ..
noncomputable def gG (ahead name:List UInt8):Int:=if gV name≠0 then gV name else if ahead<name then 0 else 3
theorem Dk (a n:List UInt8):0<=gG a n:=by
 unfold gG;split
 ·exact yG n
 ·split<;>decide
theorem xG {a n:List UInt8} (h:gG a n=0):gV n=0/\a<n:=by
 unfold gG at h;split at h
 ·rename_i h1;exact absurd h h1
 ·rename_i h1;split at h
  ·rename_i h2;exact⟨Decidable.not_not.1 h1,h2⟩
  ·cases h
noncomputable def lg (f s:Int) (ahead name c:List UInt8):Int:=if gG ahead name≠0 then gG ahead name else if pF c≠0 then pF c else if gX c = [] then 5 else if kF f s (gX c)=true then 0 else 2
noncomputable def lI (f s:Int) (ahead name:List UInt8) (l:List (Int×Nat)):Int:=if gG ahead name≠0 then gG ahead name else if fG l≠0 then fG l else if kF f s l=true then 0 else 2
theorem E8 (f s:Int) (a n c:List UInt8):0<=lg f s a n c:=by
 unfold lg;split
 ·exact Dk a n
 ·split
  ·exact Hl c
  ·split
   ·decide
   ·split<;>decide
theorem OW (f s:Int) (a n:List UInt8) (l:List (Int×Nat)):0<=lI f s a n l:=by
 unfold lI;split
 ·exact Dk a n
 ·split
  ·exact E5 l
  ·split<;>decide
theorem Dl {f s:Int} {a n c:List UInt8} (h:lg f s a n c=0):gV n=0/\a<n/\dJ c/\gX c ≠ []/\kF f s (gX c)=true:=by
 unfold lg at h;split at h
 ·rename_i h1;exact absurd h h1
 ·rename_i h1;split at h
  ·rename_i h2;exact absurd h h2
  ·rename_i h2;split at h
   ·cases h
   ·rename_i h3;split at h
    ·rename_i h4;exact⟨(xG (Decidable.not_not.1 h1)).1,(xG (Decidable.not_not.1 h1)).2,qj.1 (Decidable.not_not.1 h2),h3,h4⟩
    ·cases h
theorem Zp {f s:Int} {a n c:List UInt8} (h1:gV n=0) (h2:a<n) (h3:dJ c) (h4:gX c ≠ []) (h5:kF f s (gX c)=true):lg f s a n c=0:=by
 have hn:gG a n=0:=by unfold gG;rw[if_neg (by rw[h1];decide),if_pos h2]
 unfold lg;rw[if_neg (by rw[hn];decide),if_neg (by rw[qj.2 h3];decide),if_neg h4,if_pos h5]
theorem JL {f s:Int} {a n:List UInt8} {l:List (Int×Nat)} (h:lI f s a n l=0):gV n=0/\a<n/\fG l=0/\kF f s l=true:=by
 unfold lI at h;split at h
 ·rename_i h1;exact absurd h h1
 ·rename_i h1;split at h
  ·rename_i h2;exact absurd h h2
  ·rename_i h2;split at h
   ·rename_i h4;exact⟨(xG (Decidable.not_not.1 h1)).1,(xG (Decidable.not_not.1 h1)).2,Decidable.not_not.1 h2,h4⟩
   ·cases h
theorem Zq {f s:Int} {a n:List UInt8} {l:List (Int×Nat)} (h1:gV n=0) (h2:a<n) (h3:fG l=0) (h5:kF f s l=true):lI f s a n l=0:=by
 have hn:gG a n=0:=by unfold gG;rw[if_neg (by rw[h1];decide),if_pos h2]
 unfold lI;rw[if_neg (by rw[hn];decide),if_neg (by rw[h3];decide),if_pos h5]
def prev (ss:List (List UInt8)) (i:Nat):List UInt8:=if i=0 then [] else ss.getD (i-1) []
noncomputable def jk (f s:Int) (ss cs:List (List UInt8)) (i:Nat):Int:=lg f s (prev ss i) (ss.getD i []) (cs.getD i [])
noncomputable def rowAt (f s:Int) (rows:List (List UInt8×List (Int×Nat))) (i:Nat):Int:=lI f s (prev (rows.map Prod.fst) i) ((rows.map Prod.fst).getD i []) ((rows.map Prod.snd).getD i [])
noncomputable def Bv (f s:Int) (ss cs:List (List UInt8)):Nat:=nT (fun i=>decide (jk f s ss cs i=0)) ss.length
noncomputable def Bw (f s:Int) (rows:List (List UInt8×List (Int×Nat))):Nat:=nT (fun i=>decide (rowAt f s rows i=0)) rows.length
noncomputable def eZ (f s:Int) (ss cs:List (List UInt8)):Int:=if gI f s≠0\/60<ss.length then 2 else if cs.length≠ss.length then 3 else if Bv f s ss cs<ss.length then jk f s ss cs (Bv f s ss cs) else 0
noncomputable def kG (f s:Int) (ss cs:List (List UInt8)):Int:=if gI f s≠0\/60<ss.length then -1 else if cs.length≠ss.length then -1 else if Bv f s ss cs<ss.length then (Bv f s ss cs:Int) else -1
noncomputable def jN (f s:Int) (rows:List (List UInt8×List (Int×Nat))):Int:=if gI f s≠0\/60<rows.length then 2 else if Bw f s rows<rows.length then rowAt f s rows (Bw f s rows) else 0
noncomputable def sG (f s:Int) (rows:List (List UInt8×List (Int×Nat))):Int:=if gI f s≠0\/60<rows.length then -1 else if Bw f s rows<rows.length then (Bw f s rows:Int) else -1
theorem MN {f s:Int} {ss cs:List (List UInt8)} (h:gI f s≠0\/60<ss.length):eZ f s ss cs=2/\kG f s ss cs = -1:=by
 unfold eZ kG;rw[if_pos h,if_pos h];exact⟨rfl,rfl⟩
theorem MO {f s:Int} {ss cs:List (List UInt8)} (h:¬ (gI f s≠0\/60<ss.length)) (h2:cs.length≠ss.length):eZ f s ss cs=3/\kG f s ss cs = -1:=by
 unfold eZ kG;rw[if_neg h,if_neg h,if_pos h2,if_pos h2];exact⟨rfl,rfl⟩
theorem X5 {f s:Int} {ss cs:List (List UInt8)} (h:¬ (gI f s≠0\/60<ss.length)) (h2:cs.length=ss.length) {k:Nat} (hk:k<ss.length) (h3:∀ j,j<k->jk f s ss cs j=0) (h4:jk f s ss cs k≠0):eZ f s ss cs=jk f s ss cs k/\kG f s ss cs=k:=by
 have hb:Bv f s ss cs=k:=qg _ _ _ (by omega) (fun j hj=>by simp[h3 j hj]) (fun _=>by simp[h4]);have h2':¬ (cs.length≠ss.length):=fun e=>e h2
 unfold eZ kG;rw[if_neg h,if_neg h,if_neg h2',if_neg h2',hb,if_pos hk,if_pos hk];exact⟨rfl,rfl⟩
theorem Eu {f s:Int} {ss cs:List (List UInt8)} (h:¬ (gI f s≠0\/60<ss.length)) (h2:cs.length=ss.length) (h3:∀ j,j<ss.length->jk f s ss cs j=0):eZ f s ss cs=0/\kG f s ss cs = -1:=by
 have hb:Bv f s ss cs=ss.length:=qg _ _ _ (Nat.le_refl _) (fun j hj=>by simp[h3 j hj]) (fun e=>absurd e (by omega));have h2':¬ (cs.length≠ss.length):=fun e=>e h2
 unfold eZ kG;rw[if_neg h,if_neg h,if_neg h2',if_neg h2',hb,if_neg (by omega),if_neg (by omega)];exact⟨rfl,rfl⟩
theorem lF {f s:Int} {ss cs:List (List UInt8)} (h:eZ f s ss cs=0):gI f s=0/\ss.length<=60/\cs.length=ss.length/\∀ j,j<ss.length->jk f s ss cs j=0:=by
 unfold eZ at h;split at h
 ·cases h
 ·rename_i h1;split at h
  ·cases h
  ·rename_i h2;obtain⟨g,g1,g2⟩:=nZ (fun i=>decide (jk f s ss cs i=0)) ss.length;split at h
   ·rename_i h3;have:=g2 h3;rw[decide_eq_false_iff_not] at this;exact absurd h this
   ·rename_i h3;refine⟨Decidable.not_not.1 fun e=>h1 (.inl e),by omega,Decidable.not_not.1 h2,fun j hj=>?_⟩;have:=g1 j (by unfold Bv at h3;omega);simpa using this
theorem Ho (f s:Int) (ss cs:List (List UInt8)):0<=eZ f s ss cs:=by
 unfold eZ;split
 ·decide
 ·split
  ·decide
  ·split
   ·exact E8 ..
   ·decide
theorem Bz {f s:Int} {rows:List (List UInt8×List (Int×Nat))} (h:gI f s≠0\/60<rows.length):jN f s rows=2/\sG f s rows = -1:=by
 unfold jN sG;rw[if_pos h,if_pos h];exact⟨rfl,rfl⟩
theorem X6 {f s:Int} {rows:List (List UInt8×List (Int×Nat))} (h:¬ (gI f s≠0\/60<rows.length)) {k:Nat} (hk:k<rows.length) (h3:∀ j,j<k->rowAt f s rows j=0) (h4:rowAt f s rows k≠0):jN f s rows=rowAt f s rows k/\sG f s rows=k:=by
 have hb:Bw f s rows=k:=qg _ _ _ (by omega) (fun j hj=>by simp[h3 j hj]) (fun _=>by simp[h4]);unfold jN sG;rw[if_neg h,if_neg h,hb,if_pos hk,if_pos hk];exact⟨rfl,rfl⟩
theorem Ev {f s:Int} {rows:List (List UInt8×List (Int×Nat))} (h:¬ (gI f s≠0\/60<rows.length)) (h3:∀ j,j<rows.length->rowAt f s rows j=0):jN f s rows=0/\sG f s rows = -1:=by
 have hb:Bw f s rows=rows.length:=qg _ _ _ (Nat.le_refl _) (fun j hj=>by simp[h3 j hj]) (fun e=>absurd e (by omega));unfold jN sG;rw[if_neg h,if_neg h,hb,if_neg (by omega),if_neg (by omega)];exact⟨rfl,rfl⟩
theorem mk_zero {f s:Int} {rows:List (List UInt8×List (Int×Nat))} (h:jN f s rows=0):gI f s=0/\rows.length<=60/\∀ j,j<rows.length->rowAt f s rows j=0:=by
 unfold jN at h;split at h
 ·cases h
 ·rename_i h1;obtain⟨g,g1,g2⟩:=nZ (fun i=>decide (rowAt f s rows i=0)) rows.length;split at h
  ·rename_i h3;have:=g2 h3;rw[decide_eq_false_iff_not] at this;exact absurd h this
  ·rename_i h3;refine⟨Decidable.not_not.1 fun e=>h1 (.inl e),by omega,fun j hj=>?_⟩;have:=g1 j (by unfold Bw at h3;omega);simpa using this
theorem Hq {ss:List (List UInt8)} (h:∀ i,i<ss.length->prev ss i<ss.getD i []):ss.Pairwise (· < ·):=by
 rw[List.pairwise_iff_getElem];have step:∀ d i,(hd:i+d+1<ss.length)->ss[i]'(by omega)<ss[i+d+1]:=by
  intro d;induction d with
  | zero=>
   intro i hd;have:=h (i+1) hd;simp only[prev,Nat.add_sub_cancel,List.getD_eq_getElem?_getD] at this;rw[if_neg (by omega),List.getElem?_eq_getElem (by omega),List.getElem?_eq_getElem (by omega)] at this;exact this
  | succ d ih=>
   intro i hd;have h1:=ih i (by omega);have:=h (i+(d+1)+1) hd;simp only[prev,Nat.add_sub_cancel,List.getD_eq_getElem?_getD] at this;rw[if_neg (by omega),List.getElem?_eq_getElem (by omega),List.getElem?_eq_getElem (by omega)] at this;exact List.lt_trans h1 this
 intro i j hi hj hij;have:=step (j-i-1) i (by omega);have e:i+(j-i-1)+1=j:=by omega
 simp only[e] at this;exact this
theorem BA {ss:List (List UInt8)} (h:ss.Pairwise (· < ·)) (h0:∀ x,x∈ss->gV x=0):∀ i,i<ss.length->prev ss i<ss.getD i []:=by
 intro i hi;unfold prev;split
 ·exact Dj (h0 _ (Bu ss _ i hi))
 ·rw[List.getD_eq_getElem?_getD,List.getD_eq_getElem?_getD,List.getElem?_eq_getElem (by omega),List.getElem?_eq_getElem hi];exact List.pairwise_iff_getElem.1 h (i-1) i (by omega) hi (by omega)
structure og (f s:Int) (rows:List (List UInt8×List (Int×Nat))):Prop where
 bd:gI f s=0
 len:rows.length<=60
 up:(rows.map Prod.fst).Pairwise (· < ·)
 each:∀ r,r∈rows->gV r.1=0/\fG r.2=0/\kF f s r.2=true
theorem l9 {rows:List (List UInt8×List (Int×Nat))} {i:Nat} (hi:i<rows.length):(rows.map Prod.fst).getD i []=rows[i].1/\(rows.map Prod.snd).getD i []=rows[i].2:=by
 simp[List.getD_eq_getElem?_getD,hi]
theorem Zr {f s:Int} {rows:List (List UInt8×List (Int×Nat))} (h:jN f s rows=0):og f s rows:=by
 obtain⟨h1,h2,h3⟩:=mk_zero h;refine⟨h1,h2,Hq fun i hi=>(JL (h3 i (by simpa using hi))).2.1,fun r hr=>?_⟩;obtain⟨i,hi,rfl⟩:=List.getElem_of_mem hr;obtain⟨a,_,b,c⟩:=JL (h3 i hi);rw[(l9 hi).1] at a;rw[(l9 hi).2] at b c;exact⟨a,b,c⟩
theorem Zt {f s:Int} {rows:List (List UInt8×List (Int×Nat))} (h:og f s rows):jN f s rows=0/\sG f s rows = -1:=by
 refine Ev (fun e=>e.elim (fun e=>e h.bd) (fun e=>by have:=h.len;omega)) fun j hj=>?_
 have hm:=h.each _ (List.getElem_mem hj);refine Zq ?_ (BA h.up (fun x hx=>?_) j (by simpa using hj)) ?_ ?_
 ·rw[(l9 hj).1];exact hm.1
 ·obtain⟨r,hr,rfl⟩:=List.mem_map.1 hx;exact (h.each r hr).1
 ·rw[(l9 hj).2];exact hm.2.1
 ·rw[(l9 hj).2];exact hm.2.2
noncomputable def rowsOf (ss cs:List (List UInt8)):List (List UInt8×List (Int×Nat)):=ss.zip (cs.map gX)
theorem mD {ss cs:List (List UInt8)} (h:cs.length=ss.length):(rowsOf ss cs).length=ss.length:=by simp[rowsOf,h]
theorem Hr {ss cs:List (List UInt8)} (h:cs.length=ss.length):(rowsOf ss cs).map Prod.fst=ss:=by
 unfold rowsOf;rw[List.map_fst_zip];simp[h]
theorem xQ {f s:Int} {ss cs:List (List UInt8)} (h:eZ f s ss cs=0):cs.length=ss.length/\og f s (rowsOf ss cs)/\(∀ r,r∈rowsOf ss cs->r.2 ≠ []/\mq r.2)/\(rowsOf ss cs).map (fun r=>iL r.2)=cs:=by
 obtain⟨h1,h2,h3,h4⟩:=lF h;have hl:=mD h3;have hat:∀ i (hi:i<(rowsOf ss cs).length),(rowsOf ss cs)[i].1=ss.getD i []/\(rowsOf ss cs)[i].2=gX (cs.getD i []):=fun i hi=>by
  rw[hl] at hi;have hi2:i<cs.length:=by omega
  constructor<;>simp[rowsOf,List.getD_eq_getElem?_getD,hi,hi2]
 have hz:∀ i (hi:i<(rowsOf ss cs).length),_:=fun i hi=>Dl (h4 i (by omega))
 refine⟨h3,⟨h1,by omega,by rw[Hr h3];exact Hq fun i hi=>(Dl (h4 i hi)).2.1,fun r hr=>?_⟩,fun r hr=>?_,?_⟩
 ·obtain⟨i,hi,rfl⟩:=List.getElem_of_mem hr;rw[(hat i hi).1,(hat i hi).2];exact⟨(hz i hi).1,(uX (hz i hi).2.2.1).1,(hz i hi).2.2.2.2⟩
 ·obtain⟨i,hi,rfl⟩:=List.getElem_of_mem hr;rw[(hat i hi).2];exact⟨(hz i hi).2.2.2.1,(uX (hz i hi).2.2.1).2.1⟩
 ·refine List.ext_getElem (by simp[hl,h3]) fun i h5 h6=>?_
  have hi:i<(rowsOf ss cs).length:=by simpa using h5
  rw[List.getElem_map,(hat i hi).2,(uX (hz i hi).2.2.1).2.2];simp[List.getD_eq_getElem?_getD,h6]
theorem Zu {f s:Int} {rows:List (List UInt8×List (Int×Nat))} (h:og f s rows) (h0:∀ r,r∈rows->r.2 ≠ []/\mq r.2):eZ f s (rows.map Prod.fst) (rows.map fun r=>iL r.2)=0/\kG f s (rows.map Prod.fst) (rows.map fun r=>iL r.2) = -1/\rowsOf (rows.map Prod.fst) (rows.map fun r=>iL r.2)=rows:=by
 have hun:∀ r,r∈rows->dJ (iL r.2)/\gX (iL r.2)=r.2:=fun r hr=>⟨TJ (h.each r hr).2.1 (h0 r hr).2,I8 (h.each r hr).2.1 (h0 r hr).2⟩
 have hg:=Eu (f:=f) (s:=s) (ss:=rows.map Prod.fst) (cs:=rows.map fun r=>iL r.2) (fun e=>e.elim (fun e=>e h.bd) (fun e=>by have:=h.len;simp at e;omega)) (by simp) fun j hj=>by
  have hj':j<rows.length:=by simpa using hj
  have hm:=List.getElem_mem hj';have e2:(rows.map fun r=>iL r.2).getD j []=iL rows[j].2:=by simp[List.getD_eq_getElem?_getD,hj']
  refine Zp ?_ (BA h.up (fun x hx=>?_) j hj) ?_ ?_ ?_
  ·rw[(l9 hj').1];exact (h.each _ hm).1
  ·obtain⟨r,hr,rfl⟩:=List.mem_map.1 hx;exact (h.each r hr).1
  ·rw[e2];exact (hun _ hm).1
  ·rw[e2,(hun _ hm).2];exact (h0 _ hm).1
  ·rw[e2,(hun _ hm).2];exact (h.each _ hm).2.2
 refine⟨hg.1,hg.2,?_⟩;refine List.ext_getElem (by simp[rowsOf]) fun i h5 h6=>?_
 have:=(hun _ (List.getElem_mem h6)).2;simp[rowsOf,this]
def full (rows:List (List UInt8×List (Int×Nat))):List (List UInt8×List (Int×Nat)):=rows.filter fun r=>decide (0<r.2.length)
theorem Dm {rows:List (List UInt8×List (Int×Nat))} (h:∀ r,r∈rows->r.2 ≠ []):full rows=rows:=by
 unfold full;rw[List.filter_eq_self];intro r hr;simp[List.length_pos_iff,h r hr]
theorem JM (rows:List (List UInt8×List (Int×Nat))) (r:List UInt8×List (Int×Nat)):full (rows ++ [r])=if 0<r.2.length then full rows ++ [r] else full rows:=by
 unfold full;rw[List.filter_append];split<;>simp_all
end Go.Proofs.YtdlceolmpcjjiaaGreatDoor
namespace Go.Proofs.YtdlceolmpcjjiaaGreatDoor
open Go.RowKit bF
theorem JN:∀ out:List (List UInt8×List UInt8),(∀ p,p∈out->p.1.length<=12/\p.2.length<=12)->(kL out).length<=26*out.length
 | [],_=>by simp[kL]
 | [p],h=>by
  have:=h p (by simp);simp[kL];omega
 | p::q::r,h=>by
  have h1:=h p (by simp);have h2:=JN (q::r) fun x hx=>h x (by simp[hx])
  simp[kL] at h2 ⊢;omega
theorem JO:∀ (out:List (List UInt8×List UInt8)) (c:UInt8),c∈kL out->c=44\/c=61\/∃ p,p∈out/\(c∈p.1\/c∈p.2)
 | [],c,h=>by simp[kL] at h
 | [p],c,h=>by
  simp[kL] at h;rcases h with h | h | h
  ·exact .inr (.inr ⟨p,by simp,.inl h⟩)
  ·exact .inr (.inl h)
  ·exact .inr (.inr ⟨p,by simp,.inr h⟩)
 | p::q::r,c,h=>by
  have ih:=JO (q::r) c;rw[kL] at h;simp only[List.mem_append,List.mem_cons] at h;have hih:c∈kL (q::r)->c=44\/c=61\/∃ p',p'∈p::q::r/\(c∈p'.1\/c∈p'.2):=fun h=>by
   rcases ih h with h | h | ⟨x,hx,h⟩
   ·exact .inl h
   ·exact .inr (.inl h)
   ·exact .inr (.inr ⟨x,List.mem_cons_of_mem _ hx,h⟩)
  rcases h with (h | h | h) | h | h
  ·exact .inr (.inr ⟨p,by simp,.inl h⟩)
  ·exact .inr (.inl h)
  ·exact .inr (.inr ⟨p,by simp,.inr h⟩)
  ·exact .inl h
  ·exact hih h
theorem PD {s:ByteArray} (h:isWord s=true):s.data.toList.length<=12/\∀ c,c∈s.data.toList->c≠64:=by
 unfold isWord at h;rw[Bool.and_eq_true,List.all_eq_true,decide_eq_true_eq] at h;refine⟨h.2.2,fun c hc=>?_⟩;have:=h.1 c hc;rintro rfl;revert this;decide
theorem MP (s:List UInt8) (h:gV s=0):(∀ c,c∈s->c≠64)/\s.length<=1000:=by
 unfold gV at h;cases hs:scan s [] [] [] false with
 | none=>rw[hs] at h;cases h
 | some out=>
  rw[hs] at h;dsimp only at h;obtain⟨h1,h6,_,hall⟩:=(MJ _ _ _).2 h;have hb:=Ta s out hs;have hp:∀ p,p∈out->(p.1.length<=12/\∀ c,c∈p.1->c≠64)/\(p.2.length<=12/\∀ c,c∈p.2->c≠64):=fun p hp=>by
   obtain⟨i,hi,rfl⟩:=List.mem_iff_getElem.1 hp;have hk:=hall i hi;unfold jw at hk;rw[Bool.and_eq_true,Bool.and_eq_true] at hk;have hn:isWord (nameAt out i)=true:=by
    have:=hk.1.1;unfold isName at this;rw[Bool.and_eq_true] at this;exact this.1
   have e1:(nameAt out i).data.toList=(out[i]).1:=by simp[nameAt,txt,hi]
   have e2:(dO out i).data.toList=(out[i]).2:=by simp[dO,txt,hi]
   have w1:=PD hn;have w2:=PD hk.1.2;rw[e1] at w1;rw[e2] at w2;exact⟨w1,w2⟩
  rw[<-hb];refine⟨fun c hc=>?_,?_⟩
  ·rcases JO out c hc with rfl | rfl | ⟨p,hpm,h | h⟩
   ·decide
   ·decide
   ·exact (hp p hpm).1.2 c h
   ·exact (hp p hpm).2.2 c h
  ·have:=JN out fun p hpm=>⟨(hp p hpm).1.1,(hp p hpm).2.1⟩
   omega
end Go.Proofs.YtdlceolmpcjjiaaGreatDoor
