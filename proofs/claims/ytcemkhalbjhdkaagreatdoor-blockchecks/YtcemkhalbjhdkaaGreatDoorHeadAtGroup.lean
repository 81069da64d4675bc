import Derived.Test.YtcemkhalbjhdkaaGreatDoorBitMathGroup
import Derived.Test.YtcemkhalbjhdkaaGreatDoorLabFaultGroup
import Derived.Test.YtcemkhalbjhdkaaGreatDoorPtListGroup
import Derived.Test.YtcemkhalbjhdkaaGreatDoorRows1Group
import Derived.Maps.OwnSet
import Derived.Maps.RangeWalk
import Derived.StringKeys
import Derived.Deep.QuietTactic
import Derived.BigQuiet
import Derived.Test.YtcemkhalbjhdkaaGreatDoorPtsOwn
import Derived.Test.YtcemkhalbjhdkaaGreatDoorRefReadGroup
namespace Go.Proofs.YtcemkhalbjhdkaaGreatDoor
open Go.RowKit Go.Maps jU bD bS
def zk (v:Value):Option (DataW Value×List MemPlace):=some (.held v,[])
theorem Ja:Keyed Tryz.prog 9:=string_keyed Tryz.underlying9
theorem qg {w w':World} {b n:Nat} {D:DataW Value} (h:w.ownsMap Tryz.prog 9 zk b n D) (he:w'.heap[b]? = w.heap[b]?):w'.ownsMap Tryz.prog 9 zk b n D:=by
 obtain⟨es,clock,hb,rest⟩:=h;exact⟨es,clock,he.trans hb,rest⟩
theorem dA {w w':World} {base:Nat} {e:TypeId} {sz:Nat} {v:Value} {n:Nat} {xs:List Value} (h:w.ownsRow base e sz v n xs) (he:∀ g,v.ownBlock=some g->w'.heap[g]? = w.heap[g]?):w'.ownsRow base e sz v n xs:=by
 obtain⟨h1,h2⟩:=h;refine⟨h1,?_⟩;rcases h2 with h2 | ⟨g,cap,cur,hv,hg,hh,t⟩
 ·exact .inl h2
 ·exact .inr ⟨g,cap,cur,hv,hg,(he g (by rw[hv];rfl)).trans hh,t⟩
theorem bC {w:World} {base:Nat} {e:TypeId} {sz:Nat} {v:Value} {n:Nat} {xs:List Value} (h:w.ownsRow base e sz v n xs) {g:Nat} (hg:v.ownBlock=some g):base<=g/\g<w.heap.size/\∃ cur,w.heap[g]? = some (.cells cur e (0,0)):=by
 rcases h.2 with⟨hv,_⟩|⟨g',cap,cur,hv,hg',hh,_⟩
 ·rw[hv] at hg;cases hg
 ·rw[hv] at hg;simp[Value.ownBlock] at hg;subst hg;exact⟨hg',aG hh,cur,hh⟩
theorem Ho (s:ByteArray) (hs:s.size<=1000):keyOf Tryz.prog 9 (.string s)=some (.string s.data.toList):=Go.WideMaps.keyOf_string_mk Tryz.underlying9 (by unfold maxLen;omega)
theorem rT {w:World} {a b:Nat} {cs ds:Array Value} {t u:TypeId} {f g:Nat×Nat} (ha:w.heap[a]? = some (.cells cs t f)) (hb:w.heap[b]? = some (.cells ds u g)) (hne:t≠u):a≠b:=fun e=>by
 subst e;rw[ha] at hb;injection hb with hb;injection hb with _ h2;exact hne h2
end Go.Proofs.YtcemkhalbjhdkaaGreatDoor
namespace Go.Proofs.YtcemkhalbjhdkaaGreatDoor
open Go.RowKit Go.Maps jU bD bS
noncomputable def gF (l:List UInt8):Int:=match scan l [] [] [] false with | none=>1 | some out=>fC (nameAt out) (dN out) out.length
noncomputable def zl (l:List UInt8):Int:=match scan l [] [] [] false with | none=>-1 | some out=>fA (nameAt out) (dN out) out.length
theorem yG (l:List UInt8):0<=gF l:=by
 unfold gF;split
 ·omega
 ·exact (MQ _ _ _).1
theorem TQ {l nm vl:List UInt8} (h:scan l [] [] [] false=some [(nm,vl)]) (h1:isName (nameAt [(nm,vl)] 0)=true) (h2:isWord (dN [(nm,vl)] 0)=true):gF l=0:=by
 unfold gF;rw[h];refine Zu _ _ 1 (by omega) (by omega) fun i hi=>?_
 obtain rfl:i=0:=by omega
 unfold jr;rw[h1,h2];rfl
theorem Wt:gF [110,61,97]=0:=TQ (nm:=[110]) (vl:=[97]) (by decide) (by decide) (by decide)
end Go.Proofs.YtcemkhalbjhdkaaGreatDoor
namespace Go.Proofs.YtcemkhalbjhdkaaGreatDoor
open Go.RowKit bS bD
def iJ (l:List (Int×Nat)):List UInt8:=bU (dY l) (pq l) l.length
theorem rD (T:Nat->Int) (B:Nat->Nat) (n i:Nat) (h:i<n):dY (ku T B n) i=T i:=by simp[dY,ku,List.getD_eq_getElem?_getD,h]
theorem MS (T:Nat->Int) (B:Nat->Nat) (n i:Nat) (h:i<n):pq (ku T B n) i=B i:=by simp[pq,ku,List.getD_eq_getElem?_getD,h]
theorem FY (T U:Nat->Int) (B C:Nat->Nat) (n:Nat) (hT:∀ i,i<n->T i=U i) (hB:∀ i,i<n->B i=C i):bU T B n=bU U C n:=by
 unfold bU;rw[wK T U B C n hT hB]
theorem Bv (T:Nat->Int) (B:Nat->Nat) (n:Nat):iJ (ku T B n)=bU T B n:=by
 unfold iJ;rw[iW];exact FY _ _ _ _ _ (fun i hi=>rD T B n i hi) (fun i hi=>MS T B n i hi)
noncomputable def Ew (l:List (Int×Nat)):Nat:=nS (dZ (dY l)) l.length
noncomputable def fF (l:List (Int×Nat)):Int:=if 120<l.length then 2 else if Ew l<l.length then (if bN (dY l (Ew l))=true then 8 else 2) else 0
theorem fD {l:List (Int×Nat)} (h:fF l=0):l.length<=120/\∀ i,i<l.length->dZ (dY l) i=true:=by
 unfold fF at h;split at h
 ·cases h
 ·split at h
  ·split at h<;>cases h
  ·rename_i h1 h2;obtain⟨g,g1,_⟩:=nT (dZ (dY l)) l.length;refine⟨by omega,fun i hi=>g1 i ?_⟩;unfold Ew at h2;omega
theorem xP {l:List (Int×Nat)} (h1:l.length<=120) (h2:∀ i,i<l.length->dZ (dY l) i=true):fF l=0:=by
 have hb:Ew l=l.length:=qd _ _ _ (Nat.le_refl _) h2 (fun h=>absurd h (by omega));unfold fF;rw[if_neg (by omega),hb,if_neg (by omega)]
theorem Fa (l:List (Int×Nat)):0<=fF l:=by
 unfold fF;split
 ·decide
 ·split
  ·split<;>decide
  ·decide
def mo (l:List (Int×Nat)):Prop:=∀ p,p∈l->p.2<18446744073709551616
theorem Bw {α:Type} (l:List α) (d:α) (i:Nat) (h:i<l.length):l.getD i d∈l:=by
 rw[List.getD_eq_getElem?_getD,List.getElem?_eq_getElem h];exact List.getElem_mem h
theorem FZ {l:List (Int×Nat)} (h:mo l) (i:Nat) (hi:i<l.length):pq l i<18446744073709551616:=h _ (Bw l _ i hi)
theorem TR {l:List (Int×Nat)} (h:fF l=0) (hb:mo l):dI (iJ l):=
 ⟨l.length,dY l,pq l,(fD h).1,(fD h).2,FZ hb,rfl⟩
theorem Zv {l m:List (Int×Nat)} (hl:fF l=0) (hm:fF m=0) (bl:mo l) (bm:mo m) (h:iJ l=iJ m):l=m:=by
 obtain⟨a1,a2⟩:=fD hl;obtain⟨b1,b2⟩:=fD hm;obtain⟨e,e1,e2⟩:=Rk _ _ _ _ _ _ a1 b1 a2 b2 (FZ bl) (FZ bm) h;refine List.ext_getElem e fun i h1 h2=>?_
 have t1:=e1 i h1;have t2:=e2 i h1;simp only[dY,pq,List.getD_eq_getElem?_getD,List.getElem?_eq_getElem h1,List.getElem?_eq_getElem h2,Option.getD_some] at t1 t2;exact Prod.ext t1 t2
theorem Hq (c:List UInt8) (h:dI c):∃ l:List (Int×Nat),fF l=0/\mo l/\iJ l=c:=by
 obtain⟨n,T,B,hn,hT,hB,e⟩:=h;refine⟨ku T B n,xP (by rw[iW];exact hn) (fun i hi=>?_),fun p hp=>?_,(Bv T B n).trans e.symm⟩
 ·rw[iW] at hi;rw[sW _ T n (fun j hj=>rD T B n j hj) i hi];exact hT i hi
 ·simp[ku] at hp;obtain⟨i,hi,rfl⟩:=hp;exact hB i hi
open Classical in
noncomputable def pE (c:List UInt8):Int:=if dI c then 0 else if c.length<5 then 1 else if aj.dP (c.take (c.length-4))=c then 1 else 9
open Classical in
noncomputable def gV (c:List UInt8):List (Int×Nat):=if h:dI c then (Hq c h).choose else []
theorem uV {c:List UInt8} (h:dI c):fF (gV c)=0/\mo (gV c)/\iJ (gV c)=c:=by
 unfold gV;rw[dif_pos h];exact (Hq c h).choose_spec
theorem Jb {l:List (Int×Nat)} (h:fF l=0) (hb:mo l):gV (iJ l)=l:=by
 obtain⟨h1,h2,h3⟩:=uV (TR h hb);exact Zv h1 h h2 hb h3
theorem qh {c:List UInt8}:pE c=0↔dI c:=by
 unfold pE;constructor
 ·intro h;split at h
  ·assumption
  ·split at h
   ·cases h
   ·split at h<;>cases h
 ·intro h;rw[if_pos h]
theorem PN {c:List UInt8} (h:¬ dI c):pE c=(if c.length<5 then 1 else if aj.dP (c.take (c.length-4))=c then 1 else 9):=by
 unfold pE;rw[if_neg h]
theorem Hr (c:List UInt8):0<=pE c:=by
 unfold pE;split
 ·decide
 ·split
  ·decide
  ·split<;>decide
theorem O3:gF []≠0:=by
 unfold gF;simp[scan]
theorem Dm {n:List UInt8} (h:gF n=0):([]:List UInt8)<n:=by
 cases n with
 | nil=>exact absurd h O3
 | cons a r=>exact List.nil_lt_cons ..
noncomputable def gG (ahead name:List UInt8):Int:=if gF name≠0 then gF name else if ahead<name then 0 else 3
theorem Dn (a n:List UInt8):0<=gG a n:=by
 unfold gG;split
 ·exact yG n
 ·split<;>decide
theorem xG {a n:List UInt8} (h:gG a n=0):gF n=0/\a<n:=by
 unfold gG at h;split at h
 ·rename_i h1;exact absurd h h1
 ·rename_i h1;split at h
  ·rename_i h2;exact⟨Decidable.not_not.1 h1,h2⟩
  ·cases h
noncomputable def kY (f s:Int) (ahead name c:List UInt8):Int:=if gG ahead name≠0 then gG ahead name else if pE c≠0 then pE c else if gV c = [] then 5 else if kC f s (gV c)=true then 0 else 2
noncomputable def lG (f s:Int) (ahead name:List UInt8) (l:List (Int×Nat)):Int:=if gG ahead name≠0 then gG ahead name else if fF l≠0 then fF l else if kC f s l=true then 0 else 2
theorem Fb (f s:Int) (a n c:List UInt8):0<=kY f s a n c:=by
 unfold kY;split
 ·exact Dn a n
 ·split
  ·exact Hr c
  ·split
   ·decide
   ·split<;>decide
theorem O4 (f s:Int) (a n:List UInt8) (l:List (Int×Nat)):0<=lG f s a n l:=by
 unfold lG;split
 ·exact Dn a n
 ·split
  ·exact Fa l
  ·split<;>decide
theorem Dp {f s:Int} {a n c:List UInt8} (h:kY f s a n c=0):gF n=0/\a<n/\dI c/\gV c ≠ []/\kC f s (gV c)=true:=by
 unfold kY at h;split at h
 ·rename_i h1;exact absurd h h1
 ·rename_i h1;split at h
  ·rename_i h2;exact absurd h h2
  ·rename_i h2;split at h
   ·cases h
   ·rename_i h3;split at h
    ·rename_i h4;exact⟨(xG (Decidable.not_not.1 h1)).1,(xG (Decidable.not_not.1 h1)).2,qh.1 (Decidable.not_not.1 h2),h3,h4⟩
    ·cases h
theorem Zw {f s:Int} {a n c:List UInt8} (h1:gF n=0) (h2:a<n) (h3:dI c) (h4:gV c ≠ []) (h5:kC f s (gV c)=true):kY f s a n c=0:=by
 have hn:gG a n=0:=by unfold gG;rw[if_neg (by rw[h1];decide),if_pos h2]
 unfold kY;rw[if_neg (by rw[hn];decide),if_neg (by rw[qh.2 h3];decide),if_neg h4,if_pos h5]
theorem JO {f s:Int} {a n:List UInt8} {l:List (Int×Nat)} (h:lG f s a n l=0):gF n=0/\a<n/\fF l=0/\kC f s l=true:=by
 unfold lG at h;split at h
 ·rename_i h1;exact absurd h h1
 ·rename_i h1;split at h
  ·rename_i h2;exact absurd h h2
  ·rename_i h2;split at h
   ·rename_i h4;exact⟨(xG (Decidable.not_not.1 h1)).1,(xG (Decidable.not_not.1 h1)).2,Decidable.not_not.1 h2,h4⟩
   ·cases h
theorem Zx {f s:Int} {a n:List UInt8} {l:List (Int×Nat)} (h1:gF n=0) (h2:a<n) (h3:fF l=0) (h5:kC f s l=true):lG f s a n l=0:=by
 have hn:gG a n=0:=by unfold gG;rw[if_neg (by rw[h1];decide),if_pos h2]
 unfold lG;rw[if_neg (by rw[hn];decide),if_neg (by rw[h3];decide),if_pos h5]
def prev (ss:List (List UInt8)) (i:Nat):List UInt8:=if i=0 then [] else ss.getD (i-1) []
noncomputable def jh (f s:Int) (ss cs:List (List UInt8)) (i:Nat):Int:=kY f s (prev ss i) (ss.getD i []) (cs.getD i [])
noncomputable def rowAt (f s:Int) (rows:List (List UInt8×List (Int×Nat))) (i:Nat):Int:=lG f s (prev (rows.map Prod.fst) i) ((rows.map Prod.fst).getD i []) ((rows.map Prod.snd).getD i [])
noncomputable def Bz (f s:Int) (ss cs:List (List UInt8)):Nat:=nS (fun i=>decide (jh f s ss cs i=0)) ss.length
noncomputable def BA (f s:Int) (rows:List (List UInt8×List (Int×Nat))):Nat:=nS (fun i=>decide (rowAt f s rows i=0)) rows.length
noncomputable def eY (f s:Int) (ss cs:List (List UInt8)):Int:=if gI f s≠0\/60<ss.length then 2 else if cs.length≠ss.length then 3 else if Bz f s ss cs<ss.length then jh f s ss cs (Bz f s ss cs) else 0
noncomputable def kD (f s:Int) (ss cs:List (List UInt8)):Int:=if gI f s≠0\/60<ss.length then -1 else if cs.length≠ss.length then -1 else if Bz f s ss cs<ss.length then (Bz f s ss cs:Int) else -1
noncomputable def jL (f s:Int) (rows:List (List UInt8×List (Int×Nat))):Int:=if gI f s≠0\/60<rows.length then 2 else if BA f s rows<rows.length then rowAt f s rows (BA f s rows) else 0
noncomputable def sF (f s:Int) (rows:List (List UInt8×List (Int×Nat))):Int:=if gI f s≠0\/60<rows.length then -1 else if BA f s rows<rows.length then (BA f s rows:Int) else -1
theorem MU {f s:Int} {ss cs:List (List UInt8)} (h:gI f s≠0\/60<ss.length):eY f s ss cs=2/\kD f s ss cs = -1:=by
 unfold eY kD;rw[if_pos h,if_pos h];exact⟨rfl,rfl⟩
theorem MV {f s:Int} {ss cs:List (List UInt8)} (h:¬ (gI f s≠0\/60<ss.length)) (h2:cs.length≠ss.length):eY f s ss cs=3/\kD f s ss cs = -1:=by
 unfold eY kD;rw[if_neg h,if_neg h,if_pos h2,if_pos h2];exact⟨rfl,rfl⟩
theorem Yb {f s:Int} {ss cs:List (List UInt8)} (h:¬ (gI f s≠0\/60<ss.length)) (h2:cs.length=ss.length) {k:Nat} (hk:k<ss.length) (h3:∀ j,j<k->jh f s ss cs j=0) (h4:jh f s ss cs k≠0):eY f s ss cs=jh f s ss cs k/\kD f s ss cs=k:=by
 have hb:Bz f s ss cs=k:=qd _ _ _ (by omega) (fun j hj=>by simp[h3 j hj]) (fun _=>by simp[h4]);have h2':¬ (cs.length≠ss.length):=fun e=>e h2
 unfold eY kD;rw[if_neg h,if_neg h,if_neg h2',if_neg h2',hb,if_pos hk,if_pos hk];exact⟨rfl,rfl⟩
theorem Ey {f s:Int} {ss cs:List (List UInt8)} (h:¬ (gI f s≠0\/60<ss.length)) (h2:cs.length=ss.length) (h3:∀ j,j<ss.length->jh f s ss cs j=0):eY f s ss cs=0/\kD f s ss cs = -1:=by
 have hb:Bz f s ss cs=ss.length:=qd _ _ _ (Nat.le_refl _) (fun j hj=>by simp[h3 j hj]) (fun e=>absurd e (by omega));have h2':¬ (cs.length≠ss.length):=fun e=>e h2
 unfold eY kD;rw[if_neg h,if_neg h,if_neg h2',if_neg h2',hb,if_neg (by omega),if_neg (by omega)];exact⟨rfl,rfl⟩
theorem lC {f s:Int} {ss cs:List (List UInt8)} (h:eY f s ss cs=0):gI f s=0/\ss.length<=60/\cs.length=ss.length/\∀ j,j<ss.length->jh f s ss cs j=0:=by
 unfold eY at h;split at h
 ·cases h
 ·rename_i h1;split at h
  ·cases h
  ·rename_i h2;obtain⟨g,g1,g2⟩:=nT (fun i=>decide (jh f s ss cs i=0)) ss.length;split at h
   ·rename_i h3;have:=g2 h3;rw[decide_eq_false_iff_not] at this;exact absurd h this
   ·rename_i h3;refine⟨Decidable.not_not.1 fun e=>h1 (.inl e),by omega,Decidable.not_not.1 h2,fun j hj=>?_⟩;have:=g1 j (by unfold Bz at h3;omega);simpa using this
theorem Ht (f s:Int) (ss cs:List (List UInt8)):0<=eY f s ss cs:=by
 unfold eY;split
 ·decide
 ·split
  ·decide
  ·split
   ·exact Fb ..
   ·decide
theorem BD {f s:Int} {rows:List (List UInt8×List (Int×Nat))} (h:gI f s≠0\/60<rows.length):jL f s rows=2/\sF f s rows = -1:=by
 unfold jL sF;rw[if_pos h,if_pos h];exact⟨rfl,rfl⟩
theorem Yc {f s:Int} {rows:List (List UInt8×List (Int×Nat))} (h:¬ (gI f s≠0\/60<rows.length)) {k:Nat} (hk:k<rows.length) (h3:∀ j,j<k->rowAt f s rows j=0) (h4:rowAt f s rows k≠0):jL f s rows=rowAt f s rows k/\sF f s rows=k:=by
 have hb:BA f s rows=k:=qd _ _ _ (by omega) (fun j hj=>by simp[h3 j hj]) (fun _=>by simp[h4]);unfold jL sF;rw[if_neg h,if_neg h,hb,if_pos hk,if_pos hk];exact⟨rfl,rfl⟩
theorem Ez {f s:Int} {rows:List (List UInt8×List (Int×Nat))} (h:¬ (gI f s≠0\/60<rows.length)) (h3:∀ j,j<rows.length->rowAt f s rows j=0):jL f s rows=0/\sF f s rows = -1:=by
 have hb:BA f s rows=rows.length:=qd _ _ _ (Nat.le_refl _) (fun j hj=>by simp[h3 j hj]) (fun e=>absurd e (by omega));unfold jL sF;rw[if_neg h,if_neg h,hb,if_neg (by omega),if_neg (by omega)];exact⟨rfl,rfl⟩
theorem mk_zero {f s:Int} {rows:List (List UInt8×List (Int×Nat))} (h:jL f s rows=0):gI f s=0/\rows.length<=60/\∀ j,j<rows.length->rowAt f s rows j=0:=by
 unfold jL at h;split at h
 ·cases h
 ·rename_i h1;obtain⟨g,g1,g2⟩:=nT (fun i=>decide (rowAt f s rows i=0)) rows.length;split at h
  ·rename_i h3;have:=g2 h3;rw[decide_eq_false_iff_not] at this;exact absurd h this
  ·rename_i h3;refine⟨Decidable.not_not.1 fun e=>h1 (.inl e),by omega,fun j hj=>?_⟩;have:=g1 j (by unfold BA at h3;omega);simpa using this
theorem Hu {ss:List (List UInt8)} (h:∀ i,i<ss.length->prev ss i<ss.getD i []):ss.Pairwise (· < ·):=by
 rw[List.pairwise_iff_getElem];have step:∀ d i,(hd:i+d+1<ss.length)->ss[i]'(by omega)<ss[i+d+1]:=by
  intro d;induction d with
  | zero=>
   intro i hd;have:=h (i+1) hd;simp only[prev,Nat.add_sub_cancel,List.getD_eq_getElem?_getD] at this;rw[if_neg (by omega),List.getElem?_eq_getElem (by omega),List.getElem?_eq_getElem (by omega)] at this;exact this
  | succ d ih=>
   intro i hd;have h1:=ih i (by omega);have:=h (i+(d+1)+1) hd;simp only[prev,Nat.add_sub_cancel,List.getD_eq_getElem?_getD] at this;rw[if_neg (by omega),List.getElem?_eq_getElem (by omega),List.getElem?_eq_getElem (by omega)] at this;exact List.lt_trans h1 this
 intro i j hi hj hij;have:=step (j-i-1) i (by omega);have e:i+(j-i-1)+1=j:=by omega
 simp only[e] at this;exact this
theorem BF {ss:List (List UInt8)} (h:ss.Pairwise (· < ·)) (h0:∀ x,x∈ss->gF x=0):∀ i,i<ss.length->prev ss i<ss.getD i []:=by
 intro i hi;unfold prev;split
 ·exact Dm (h0 _ (Bw ss _ i hi))
 ·rw[List.getD_eq_getElem?_getD,List.getD_eq_getElem?_getD,List.getElem?_eq_getElem (by omega),List.getElem?_eq_getElem hi];exact List.pairwise_iff_getElem.1 h (i-1) i (by omega) hi (by omega)
structure nZ (f s:Int) (rows:List (List UInt8×List (Int×Nat))):Prop where
 bd:gI f s=0
 len:rows.length<=60
 up:(rows.map Prod.fst).Pairwise (· < ·)
 each:∀ r,r∈rows->gF r.1=0/\fF r.2=0/\kC f s r.2=true
theorem l7 {rows:List (List UInt8×List (Int×Nat))} {i:Nat} (hi:i<rows.length):(rows.map Prod.fst).getD i []=rows[i].1/\(rows.map Prod.snd).getD i []=rows[i].2:=by
 simp[List.getD_eq_getElem?_getD,hi]
theorem Zy {f s:Int} {rows:List (List UInt8×List (Int×Nat))} (h:jL f s rows=0):nZ f s rows:=by
 obtain⟨h1,h2,h3⟩:=mk_zero h;refine⟨h1,h2,Hu fun i hi=>(JO (h3 i (by simpa using hi))).2.1,fun r hr=>?_⟩;obtain⟨i,hi,rfl⟩:=List.getElem_of_mem hr;obtain⟨a,_,b,c⟩:=JO (h3 i hi);rw[(l7 hi).1] at a;rw[(l7 hi).2] at b c;exact⟨a,b,c⟩
theorem Zz {f s:Int} {rows:List (List UInt8×List (Int×Nat))} (h:nZ f s rows):jL f s rows=0/\sF f s rows = -1:=by
 refine Ez (fun e=>e.elim (fun e=>e h.bd) (fun e=>by have:=h.len;omega)) fun j hj=>?_
 have hm:=h.each _ (List.getElem_mem hj);refine Zx ?_ (BF h.up (fun x hx=>?_) j (by simpa using hj)) ?_ ?_
 ·rw[(l7 hj).1];exact hm.1
 ·obtain⟨r,hr,rfl⟩:=List.mem_map.1 hx;exact (h.each r hr).1
 ·rw[(l7 hj).2];exact hm.2.1
 ·rw[(l7 hj).2];exact hm.2.2
noncomputable def rowsOf (ss cs:List (List UInt8)):List (List UInt8×List (Int×Nat)):=ss.zip (cs.map gV)
theorem mq {ss cs:List (List UInt8)} (h:cs.length=ss.length):(rowsOf ss cs).length=ss.length:=by simp[rowsOf,h]
theorem Hw {ss cs:List (List UInt8)} (h:cs.length=ss.length):(rowsOf ss cs).map Prod.fst=ss:=by
 unfold rowsOf;rw[List.map_fst_zip];simp[h]
theorem xQ {f s:Int} {ss cs:List (List UInt8)} (h:eY f s ss cs=0):cs.length=ss.length/\nZ f s (rowsOf ss cs)/\(∀ r,r∈rowsOf ss cs->r.2 ≠ []/\mo r.2)/\(rowsOf ss cs).map (fun r=>iJ r.2)=cs:=by
 obtain⟨h1,h2,h3,h4⟩:=lC h;have hl:=mq h3;have hat:∀ i (hi:i<(rowsOf ss cs).length),(rowsOf ss cs)[i].1=ss.getD i []/\(rowsOf ss cs)[i].2=gV (cs.getD i []):=fun i hi=>by
  rw[hl] at hi;have hi2:i<cs.length:=by omega
  constructor<;>simp[rowsOf,List.getD_eq_getElem?_getD,hi,hi2]
 have hz:∀ i (hi:i<(rowsOf ss cs).length),_:=fun i hi=>Dp (h4 i (by omega))
 refine⟨h3,⟨h1,by omega,by rw[Hw h3];exact Hu fun i hi=>(Dp (h4 i hi)).2.1,fun r hr=>?_⟩,fun r hr=>?_,?_⟩
 ·obtain⟨i,hi,rfl⟩:=List.getElem_of_mem hr;rw[(hat i hi).1,(hat i hi).2];exact⟨(hz i hi).1,(uV (hz i hi).2.2.1).1,(hz i hi).2.2.2.2⟩
 ·obtain⟨i,hi,rfl⟩:=List.getElem_of_mem hr;rw[(hat i hi).2];exact⟨(hz i hi).2.2.2.1,(uV (hz i hi).2.2.1).2.1⟩
 ·refine List.ext_getElem (by simp[hl,h3]) fun i h5 h6=>?_
  have hi:i<(rowsOf ss cs).length:=by simpa using h5
  rw[List.getElem_map,(hat i hi).2,(uV (hz i hi).2.2.1).2.2];simp[List.getD_eq_getElem?_getD,h6]
theorem ZA {f s:Int} {rows:List (List UInt8×List (Int×Nat))} (h:nZ f s rows) (h0:∀ r,r∈rows->r.2 ≠ []/\mo r.2):eY f s (rows.map Prod.fst) (rows.map fun r=>iJ r.2)=0/\kD f s (rows.map Prod.fst) (rows.map fun r=>iJ r.2) = -1/\rowsOf (rows.map Prod.fst) (rows.map fun r=>iJ r.2)=rows:=by
 have hun:∀ r,r∈rows->dI (iJ r.2)/\gV (iJ r.2)=r.2:=fun r hr=>⟨TR (h.each r hr).2.1 (h0 r hr).2,Jb (h.each r hr).2.1 (h0 r hr).2⟩
 have hg:=Ey (f:=f) (s:=s) (ss:=rows.map Prod.fst) (cs:=rows.map fun r=>iJ r.2) (fun e=>e.elim (fun e=>e h.bd) (fun e=>by have:=h.len;simp at e;omega)) (by simp) fun j hj=>by
  have hj':j<rows.length:=by simpa using hj
  have hm:=List.getElem_mem hj';have e2:(rows.map fun r=>iJ r.2).getD j []=iJ rows[j].2:=by simp[List.getD_eq_getElem?_getD,hj']
  refine Zw ?_ (BF h.up (fun x hx=>?_) j hj) ?_ ?_ ?_
  ·rw[(l7 hj').1];exact (h.each _ hm).1
  ·obtain⟨r,hr,rfl⟩:=List.mem_map.1 hx;exact (h.each r hr).1
  ·rw[e2];exact (hun _ hm).1
  ·rw[e2,(hun _ hm).2];exact (h0 _ hm).1
  ·rw[e2,(hun _ hm).2];exact (h.each _ hm).2.2
 refine⟨hg.1,hg.2,?_⟩;refine List.ext_getElem (by simp[rowsOf]) fun i h5 h6=>?_
 have:=(hun _ (List.getElem_mem h6)).2;simp[rowsOf,this]
def full (rows:List (List UInt8×List (Int×Nat))):List (List UInt8×List (Int×Nat)):=rows.filter fun r=>decide (0<r.2.length)
theorem Dq {rows:List (List UInt8×List (Int×Nat))} (h:∀ r,r∈rows->r.2 ≠ []):full rows=rows:=by
 unfold full;rw[List.filter_eq_self];intro r hr;simp[List.length_pos_iff,h r hr]
theorem JQ (rows:List (List UInt8×List (Int×Nat))) (r:List UInt8×List (Int×Nat)):full (rows ++ [r])=if 0<r.2.length then full rows ++ [r] else full rows:=by
 unfold full;rw[List.filter_append];split<;>simp_all
end Go.Proofs.YtcemkhalbjhdkaaGreatDoor
namespace Go.Proofs.YtcemkhalbjhdkaaGreatDoor
open Go.RowKit bD
theorem JR:∀ out:List (List UInt8×List UInt8),(∀ p,p∈out->p.1.length<=12/\p.2.length<=12)->(kJ out).length<=26*out.length
 | [],_=>by simp[kJ]
 | [p],h=>by
  have:=h p (by simp);simp[kJ];omega
 | p::q::r,h=>by
  have h1:=h p (by simp);have h2:=JR (q::r) fun x hx=>h x (by simp[hx])
  simp[kJ] at h2 ⊢;omega
theorem JU:∀ (out:List (List UInt8×List UInt8)) (c:UInt8),c∈kJ out->c=44\/c=61\/∃ p,p∈out/\(c∈p.1\/c∈p.2)
 | [],c,h=>by simp[kJ] at h
 | [p],c,h=>by
  simp[kJ] at h;rcases h with h | h | h
  ·exact .inr (.inr ⟨p,by simp,.inl h⟩)
  ·exact .inr (.inl h)
  ·exact .inr (.inr ⟨p,by simp,.inr h⟩)
 | p::q::r,c,h=>by
  have ih:=JU (q::r) c;rw[kJ] at h;simp only[List.mem_append,List.mem_cons] at h;have hih:c∈kJ (q::r)->c=44\/c=61\/∃ p',p'∈p::q::r/\(c∈p'.1\/c∈p'.2):=fun h=>by
   rcases ih h with h | h | ⟨x,hx,h⟩
   ·exact .inl h
   ·exact .inr (.inl h)
   ·exact .inr (.inr ⟨x,List.mem_cons_of_mem _ hx,h⟩)
  rcases h with (h | h | h) | h | h
  ·exact .inr (.inr ⟨p,by simp,.inl h⟩)
  ·exact .inr (.inl h)
  ·exact .inr (.inr ⟨p,by simp,.inr h⟩)
  ·exact .inl h
  ·exact hih h
theorem PO {s:ByteArray} (h:isWord s=true):s.data.toList.length<=12/\∀ c,c∈s.data.toList->c≠64:=by
 unfold isWord at h;rw[Bool.and_eq_true,List.all_eq_true,decide_eq_true_eq] at h;refine⟨h.2.2,fun c hc=>?_⟩;have:=h.1 c hc;rintro rfl;revert this;decide
theorem JV (s:List UInt8) (h:gF s=0):(∀ c,c∈s->c≠64)/\s.length<=160:=by
 unfold gF at h;cases hs:scan s [] [] [] false with
 | none=>rw[hs] at h;cases h
 | some out=>
  rw[hs] at h;dsimp only at h;obtain⟨h1,h6,_,hall⟩:=(MQ _ _ _).2 h;have hb:=Ti s out hs;have hp:∀ p,p∈out->(p.1.length<=12/\∀ c,c∈p.1->c≠64)/\(p.2.length<=12/\∀ c,c∈p.2->c≠64):=fun p hp=>by
   obtain⟨i,hi,rfl⟩:=List.mem_iff_getElem.1 hp;have hk:=hall i hi;unfold jr at hk;rw[Bool.and_eq_true,Bool.and_eq_true] at hk;have hn:isWord (nameAt out i)=true:=by
    have:=hk.1.1;unfold isName at this;rw[Bool.and_eq_true] at this;exact this.1
   have e1:(nameAt out i).data.toList=(out[i]).1:=by simp[nameAt,txt,hi]
   have e2:(dN out i).data.toList=(out[i]).2:=by simp[dN,txt,hi]
   have w1:=PO hn;have w2:=PO hk.1.2;rw[e1] at w1;rw[e2] at w2;exact⟨w1,w2⟩
  rw[<-hb];refine⟨fun c hc=>?_,?_⟩
  ·rcases JU out c hc with rfl | rfl | ⟨p,hpm,h | h⟩
   ·decide
   ·decide
   ·exact (hp p hpm).1.2 c h
   ·exact (hp p hpm).2.2 c h
  ·have:=JR out fun p hpm=>⟨(hp p hpm).1.1,(hp p hpm).2.1⟩
   omega
theorem MW (s:List UInt8) (h:gF s=0):(∀ c,c∈s->c≠64)/\s.length<=1000:=⟨(JV s h).1,Nat.le_trans (JV s h).2 (by decide)⟩
end Go.Proofs.YtcemkhalbjhdkaaGreatDoor
