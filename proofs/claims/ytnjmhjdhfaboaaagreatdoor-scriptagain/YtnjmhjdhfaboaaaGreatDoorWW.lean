import Derived.Lib.Join
import Derived.Test.YtnjmhjdhfaboaaaGreatDoorWV
set_option maxRecDepth 1000000
set_option maxHeartbeats 4000000
open Nat (add_comm le_refl le_trans lt_of_lt_of_le not_lt_zero zero_le)
open List
open Go.Proofs.Tryz
namespace Go.Proofs.YtnjmhjdhfaboaaaGreatDoor
open Go.RowKit Go.Maps aV aD aU bH dF aR iT
theorem ć{p:Prop}(h:p):Go.RowKit.Hid p:=h
def Na(T:Nat->List UInt8)(C:Int):List UInt8:=T (C.toNat-1)
def BO:List UInt8:=[111,107]
def Nb:List UInt8:=[106,111,105,110,101,100]
def PV:List UInt8:=[110,111,116,104,105,110,103]
def sj(k:List UInt8):Option Nat:=if k = [99,104,117,110,107] then some 8 else if k = [98,108,111,99,107,115] then some 7 else if k = [115,117,109] then some 6 else if k = [103,101,116] then some 5 else if k = [98,111,111,116] then some 4 else if k = [99,117,116] then some 3 else if k = [99,111,109,112,97,99,116] then some 2 else if k = [102,108,117,115,104] then some 1 else if k = [97,100,100] then some 0 else none
theorem Ke{k:List UInt8}{c:Nat}(h:sj k=some c):c<9:=by
 unfold sj at h;repeat' (split at h;· injection h with h;omega)
 cases h
def GQ(c:Nat):Bool:=c==0||c==5||c==6
def Nc(c:Nat):Nat:=if c=0\/c=5\/c=6 then 2 else if c=1\/c=3\/c=8 then 1 else 0
def adU(c:Nat):Bool:=c==8
def pR(l:List UInt8):Option Int:=match Lib.atoiAll l with
 | .ok v=>if l.length<=7/\0<=v/\Lib.itoa v=l then some v else none
 | _=>none
theorem aj1{l:List UInt8}{v:Int}(h:pR l=some v):0<=v/\v<=9223372036854775807:=by
 unfold pR at h;split at h
 ·rename_i x o;split at h
  ·rename_i j;injection h with h;subst h;exact⟨j.2.1,(Lib.atoiAll_bounds o).2⟩
  ·cases h
 ·cases h
def numsL:List (List UInt8)->Option (List Int)
 | []=>some []
 | x::l=>match pR x with
  | none=>none
  | some v=>(numsL l).map λr=>v::r
theorem SK:∀ {l:List (List UInt8)} {ns:List Int},numsL l=some ns->ns.length=l.length/\∀v,v∈ns->0<=v/\v<=9223372036854775807
 | [],ns,h=>by
  injection h with h;subst h;exact⟨rfl,λ_ h=>nomatch h⟩
 | x::l,ns,h=>by
  rw[numsL] at h;split at h
  ·cases h
  ·rename_i v A;cases j:numsL l with
   | none=>rw[j] at h;cases h
   | some r=>
    rw[j] at h;injection h with h;subst h;obtain⟨q,z⟩:=SK j;refine⟨by simp[q],λy o=>?_⟩;rcases mem_cons.1 o with rfl|o
    ·exact aj1 A
    ·exact z y o
def Dm(N:Nat)(M:Bool)(k:List UInt8)(l:List (List UInt8)):Option (List UInt8×List Int):=if l.length<N\/(N<l.length/\M=false) then none else (numsL l).map λns=>(k,ns)
noncomputable def Ma(L:Bool)(N:Nat)(M:Bool)(ss:List (List UInt8)):Option (List UInt8×List Int):=
 if L=true then (match ss with
  | []=>none
  | k::r=>if bI k=0 then Dm N M k r else none)
 else Dm N M [] ss
noncomputable def Mc(c:Nat)(l:List (List UInt8)):Option (List UInt8×List Int):=Ma (GQ c) (Nc c) (adU c) l
theorem abv{N:Nat}{M:Bool}{o:List UInt8}{l:List (List UInt8)}{k:List UInt8}{ns:List Int}(h:Dm N M o l=some (k,ns)):k=o/\N<=ns.length/\(∀v,v∈ns->0<=v/\v<=9223372036854775807)/\ns.length<=l.length:=by
 unfold Dm at h;split at h
 ·cases h
 ·cases j:numsL l with
  | none=>rw[j] at h;cases h
  | some m=>
   rw[j] at h;injection h with h;injection h with h1 h2;subst h1 h2;obtain⟨z,q⟩:=SK j;exact⟨rfl,fM,q,fM⟩
theorem abw{c:Nat}{l:List (List UInt8)}{k:List UInt8}{ns:List Int}(h:Mc c l=some (k,ns)):Nc c<=ns.length/\(∀v,v∈ns->0<=v/\v<=9223372036854775807)/\(GQ c=true->bI k=0)/\ns.length<=l.length/\(GQ c≠true->k = []):=by
 unfold Mc Ma at h;split at h
 ·rename_i hL;split at h
  ·cases h
  ·split at h
   ·rename_i A;obtain⟨j,o,q,z⟩:=abv h;exact⟨o,q,λ_=>j ▸ A,oI,λh=>absurd hL h⟩
   ·cases h
 ·rename_i hL;obtain⟨j,o,q,z⟩:=abv h;exact⟨o,q,λh=>absurd h hL,z,λ_=>j⟩
def nC(r:Rw):List UInt8:=r.1++r.2.flatMap λp=>32::(Lib.itoa p.1++58::Lib.decDigits p.2)
def Nf(a:Sm):List UInt8:=Lib.itoa (a.c:Int) ++ [a.l,a.m,a.t,a.s].flatMap λv=>32::Lib.decDigits v
def su(sep:List UInt8)(l:List (List UInt8)):List UInt8:=if l = [] then PV else Lib.join l sep
def wH(b:Bk):List UInt8:=Lib.itoa b.1++43::Lib.itoa b.2.1
def lD(ns:List Int):List (Int×Nat):=(List.range ns.length).map λi=>(ns.getD i 0,i)
def fV(k:List UInt8):List (List UInt8×List UInt8):=(scan k [] [] [] false).getD []
def KQ:Nat->Nat:=λ_=>61
noncomputable def A9(s:PS)(k:List UInt8)(x y:Int):List Rw:=Cw s.S s.Bs KQ (nameAt (fV k)) (cK (fV k)) (fV k).length x y
noncomputable def zk(k:List UInt8):Int:=mC KQ (nameAt (fV k)) (fV k).length
def aoP(Bs:List Bk):Prop:=∃(q:Nat) (hq:q+1<Bs.length),vD (Bs[q]'fM) Bs[q+1]=0
noncomputable def mM(T:Nat->List UInt8)(C:Int)(a:List UInt8):List UInt8:=if C=0 then a else Na T C
open Classical in
noncomputable def wI(T:Nat->List UInt8)(s:PS)(c:Nat)(k:List UInt8)(ns:List Int)(a:List UInt8)(s':PS):Prop:=
 match c with
 | 0=>a=mM T (wC s.S s.d s.Bs k (ns.getD 0 0) (ns.getD 1 0).toNat) BO/\s'=⟨AP s.S s.d s.Bs k (ns.getD 0 0) (ns.getD 1 0).toNat,Dj s.S s.d s.Bs k (ns.getD 0 0) (ns.getD 1 0).toNat,s.Bs⟩
 | 1=>if ns.getD 0 0<=1099511627776 then a=mM T (yJ 50 (ns.getD 0 0) s.S s.d s.Bs) (Lib.itoa (AY 50 (ns.getD 0 0) s.S s.d s.Bs))/\s'=⟨wU 50 (ns.getD 0 0) s.S s.Bs,O0 50 (ns.getD 0 0) s.S s.d s.Bs,AX 50 (ns.getD 0 0) s.S s.Bs 6⟩ else a=Na T 2/\s'=s
 | 2=>a=(if aoP s.Bs then Nb else PV)/\s'=⟨s.S,s.d,nK s.Bs⟩
 | 3=>a=mM T (if s.d.off=true then 10 else 0) BO/\s'=⟨s.S,if s.d.off=true then s.d else ⟨s.d.L,false,true,(ns.getD 0 0).toNat⟩,s.Bs⟩
 | 4=>a=BO/\∃L,Reads jO s.d.L L/\s'=⟨iJ L,⟨recs L,false,false,0⟩,[]⟩
 | 5=>a=mM T (zk k) (su [59,32] ((A9 s k (ns.getD 0 0) (ns.getD 1 0)).map nC))/\s'=s
 | 6=>a=mM T (zk k) (Nf (ofM (flat (A9 s k (ns.getD 0 0) (ns.getD 1 0)))))/\s'=s
 | 7=>a=su [32] (s.Bs.map wH)/\s'=s
 | _=>a=mM T (gL (lD ns)) (oD (dZ (lD ns)) (dZ (lD ns)).length)/\s'=s
theorem UK{T:Nat->List UInt8}{s:PS}{c:Nat}{k:List UInt8}{ns:List Int}{a b:List UInt8}{s' o:PS}(h:wI T s c k ns a s')(g:wI T s c k ns b o):a=b/\s'=o:=by
 unfold wI at h g;split at h;case h_5=>
  obtain⟨A,L,hL,D⟩:=h;obtain⟨q,M,z,gs⟩:=g;obtain rfl:=wm LZ L M _ hL z;exact⟨A.trans q.symm,D.trans gs.symm⟩
 case h_2=>
  split at h
  ·rename_i j;rw[if_pos j] at g;exact⟨h.1.trans g.1.symm,h.2.trans g.2.symm⟩
  ·rename_i j;rw[if_neg j] at g;exact⟨h.1.trans g.1.symm,h.2.trans g.2.symm⟩
 case h_9=>
  split at g;all_goals first
   | exact absurd rfl (by assumption)
   | exact⟨h.1.trans g.1.symm,h.2.trans g.2.symm⟩
 all_goals exact⟨h.1.trans g.1.symm,h.2.trans g.2.symm⟩
noncomputable def kQ(T:Nat->List UInt8)(s:PS)(l a:List UInt8)(s':PS):Prop:=
 match sj ((uh 32 [] l).headD []) with
 | none=>a=T 0/\s'=s
 | some c=>match Mc c (uh 32 [] l).tail with
  | none=>a=T 0/\s'=s
  | some (k,ns)=>wI T s c k ns a s'
theorem SL{T:Nat->List UInt8}{s:PS}{l a b:List UInt8}{s' q:PS}(h:kQ T s l a s')(g:kQ T s l b q):a=b/\s'=q:=by
 unfold kQ at h g;split at h
 ·rename_i j;rw[j] at g;exact⟨h.1.trans g.1.symm,h.2.trans g.2.symm⟩
 ·rename_i c j;rw[j] at g;dsimp only at g;split at h
  ·rename_i o;rw[o] at g;exact⟨h.1.trans g.1.symm,h.2.trans g.2.symm⟩
  ·rename_i k ns o;rw[o] at g;exact UK h g
def lS(T:Nat->List UInt8):PS->List (List UInt8)->List (List UInt8)->PS->Prop
 | s,[],ys,s'=>ys = []/\s'=s
 | s,l::ls,ys,s'=>∃a t r,kQ T s l a t/\ys=a::r/\lS T t ls r s'
theorem lS.snoc{T:Nat->List UInt8}:∀ {o:List (List UInt8)} {s t u:PS} {j:List (List UInt8)} {l a:List UInt8},lS T s o j t->kQ T t l a u->lS T s (o ++ [l]) (j ++ [a]) u
 | [],s,t,u,j,l,a,h,g=>by
  obtain⟨rfl,rfl⟩:=h;exact⟨a,u,[],g,rfl,rfl,rfl⟩
 | x::o,s,t,u,j,l,a,h,g=>by
  obtain⟨b,A,r,q,rfl,z⟩:=h;exact⟨b,A,r ++ [a],q,rfl,z.snoc g⟩
theorem lS.unique{T:Nat->List UInt8}:∀ {z:List (List UInt8)} {s t u:PS} {j o:List (List UInt8)},lS T s z j t->lS T s z o u->j=o/\t=u
 | [],s,t,u,j,o,h,g=>by
  obtain⟨rfl,rfl⟩:=h;obtain⟨rfl,rfl⟩:=g;exact⟨rfl,rfl⟩
 | x::z,s,t,u,j,o,h,g=>by
  obtain⟨a,H,r,F,rfl,G⟩:=h;obtain⟨b,I,q,A,rfl,D⟩:=g;obtain⟨rfl,rfl⟩:=SL F A;obtain⟨rfl,rfl⟩:=G.unique D;exact⟨rfl,rfl⟩
theorem lS.take{T:Nat->List UInt8}:∀ {o:List (List UInt8)} {s t:PS} {j:List (List UInt8)} (n:Nat),lS T s o j t->∃u,lS T s (o.take n) (j.take n) u
 | [],s,t,j,n,h=>by
  obtain⟨rfl,rfl⟩:=h;exact⟨_,by simpa using (show lS T t [] [] t from ⟨rfl,rfl⟩)⟩
 | x::o,s,t,j,0,h=>⟨s,rfl,rfl⟩
 | x::o,s,t,j,n+1,h=>by
  obtain⟨a,D,r,q,rfl,z⟩:=h;obtain⟨u,A⟩:=z.take n;exact⟨u,a,D,_,q,rfl,A⟩
theorem lS.len{T:Nat->List UInt8}:∀ {o:List (List UInt8)} {s t:PS} {j:List (List UInt8)},lS T s o j t->j.length=o.length
 | [],s,t,j,h=>by rw[h.1]
 | x::o,s,t,j,h=>by
  obtain⟨a,A,r,z,rfl,q⟩:=h;simp[q.len]
theorem iL.cmd{T:Nat->List UInt8}{s s':PS}{c:Nat}{A:List UInt8}{ns:List Int}{a:List UInt8}{k:Nat}(h:iL s k)(Md:c<9)(â:∀v,v∈ns->0<=v/\v<=9223372036854775807)(ĝ:A.length<=200)(z:wI T s c A ns a s'):iL s' (k+1):=by
 obtain⟨L,hL,hLk⟩:=h.log;have η:=h.bs;have ę:=h.sl;have ϥ:=h.cs;have W:=ĝ;unfold wI at z;split at z
 ·obtain⟨_,rfl⟩:=z;have U:(ns.getD 1 0).toNat<18446744073709551616:=by
   rw[getD_eq_getElem?_getD];by_cases q:1<ns.length
   ·rw[List.getElem?_eq_getElem q];have:=â _ (getElem_mem q);simp only[Option.getD_some];omega
   ·rw[List.getElem?_eq_none fM];decide
  obtain⟨t,ht⟩:=bF (ns.getD 0 0);obtain⟨u,Y⟩:=bF ((ns.getD 1 0).toNat);rw[<-ht,<-Y];rw[<-Y] at U;have G:∃J,lQ (Dj s.S s.d s.Bs A t u) J/\J.length<=k+1:=by
   unfold Dj;split
   ·exact⟨L,hL,fM⟩
   ·obtain⟨a1,a2⟩:=hL.app A W t u U;by_cases o:ku s.d A t u=0
    ·exact⟨_,a1 o,by rw[length_append];simp;omega⟩
    ·exact⟨L,a2 o,fM⟩
  by_cases hz:wC s.S s.d s.Bs A t u=0
  ·obtain⟨hr,e⟩:=agE hz;have h0:=adD hr;have g1:=Eu s.S A (t,u);have g2:=zm s.S A (t,u);rw[e];refine⟨h.head.add (VI hr) fM U,λl R=>?_,h.made,h.name,h.bs,by show (fZ s.S A (t,u)).length<=k+1;omega,by show bV (fZ s.S A (t,u))<=k+1;omega,G⟩;rcases (jS h.head.well.sorted).1 R with⟨hl',_⟩|⟨m,_,_,rfl⟩|⟨_,rfl⟩
   ·exact h.key l hl'
   ·exact W
   ·exact W
  ·rw[ajZ hz];exact⟨h.head,h.key,h.made,h.name,h.bs,by show s.S.length<=k+1;omega,by show bV s.S<=k+1;omega,G⟩
 ·split at z
  ·obtain⟨_,rfl⟩:=z;obtain⟨now,JZ⟩:=bF (ns.getD 0 0);rw[<-JZ];have K:=adQ (now:=now) h.head (show (0:Int)<50 by decide) h.key;have o:kD (wU 50 now s.S s.Bs):=h.head.cut _;have I:∀l,l∈wU 50 now s.S s.Bs->l.key.length<=200:=λl R=>by
    obtain⟨m,K,rfl⟩:=mem_map.1 R;exact h.key m K
   have ž:bV (wU 50 now s.S s.Bs)<=bV s.S:=Ev _ _;obtain⟨O,e2⟩:=agG o I 1099511627776;obtain⟨J,V,q2⟩:=hL.anew _ O;refine⟨o,I,λb j=>?_,λb j=>?_,?_,?_,by show bV (wU 50 now s.S s.Bs)<=k+1;omega,J,V,fM⟩
   ·rcases mem_append.1 (mem_of_mem_drop j) with j|j
    ·exact h.made b j
    ·exact (K b j).1
   ·rcases mem_append.1 (mem_of_mem_drop j) with j|j
    ·exact h.name b j
    ·exact (K b j).2.2
   ·show (AX 50 now s.S s.Bs 6).length<=6;unfold AX;rw[length_drop];omega
   ·show (wU 50 now s.S s.Bs).length<=k+1;unfold wU;rw[Sk];omega
  ·obtain⟨_,rfl⟩:=z;exact h.mono (Nat.le_succ _)
 ·obtain⟨_,rfl⟩:=z;have D:∀Bs:List Bk,(∀b,b∈Bs->qj b.1 b.2.1 b.2.2)->(∀b,b∈Bs->∀r,r∈b.2.2->r.1.length<=200)->(∀b,b∈nK Bs->qj b.1 b.2.1 b.2.2/\∀r,r∈b.2.2->r.1.length<=200)/\(nK Bs).length<=Bs.length:=λBs=>by
   induction Bs with
   | nil=>intro _ _;exact⟨by rw[nK];simp;simp,by rw[nK];simp;simp⟩
   | cons a l ih=>
    intro q F;cases l with
    | nil=>
     have e:nK [a] = [a]:=by rw[nK];simp
     rw[e];exact⟨λb j=>⟨q b j,F b j⟩,le_refl _⟩
    | cons b l=>
     rw[nK];obtain⟨i1,i2⟩:=ih (λc o=>q c (mem_cons_of_mem _ o)) λc o=>F c (mem_cons_of_mem _ o)
     split
     ·rename_i hj;have Q:=q a rQ;have j:=q b rQ;obtain⟨O,e2,e3⟩:=agC Q j hj;have H:qj (a.1+a.2.1) b.2.1 b.2.2:=by rw[O];exact j
      rw[e2];refine⟨λc o=>?_,rQ⟩;rcases mem_cons.1 o with rfl|o
      ·exact⟨agk Q H e3,agl Q.well H.well (F a rQ) (F b rQ)⟩
      ·exact⟨q c (mem_cons_of_mem _ (mem_cons_of_mem _ o)),F c (mem_cons_of_mem _ (mem_cons_of_mem _ o))⟩
     ·refine⟨λc o=>?_,by simp only[length_cons] at i2 ⊢;omega⟩;rcases mem_cons.1 o with rfl|o
      ·exact⟨q _ (mem_cons_self ..),F _ (mem_cons_self ..)⟩
      ·exact i1 c o
  obtain⟨Z,c2⟩:=D s.Bs h.made h.name;exact⟨h.head,h.key,λb j=>(Z b j).1,λb j=>(Z b j).2,le_trans c2 η,by show s.S.length<=k+1;omega,by show bV s.S<=k+1;omega,L,hL,fM⟩
 ·obtain⟨_,rfl⟩:=z;refine⟨h.head,h.key,h.made,h.name,h.bs,by show s.S.length<=k+1;omega,by show bV s.S<=k+1;omega,L,?_,fM⟩;show lQ (if s.d.off=true then s.d else _) L;split
  ·exact hL
  ·rename_i ho;obtain⟨x,e,hx⟩:=hL.form;rcases hx with⟨_,rfl⟩|⟨q,_⟩
   ·exact⟨hL.ok,hL.nm,hL.fit,[],e,.inl ⟨rfl,rfl⟩⟩
   ·exact absurd q ho
 ·obtain⟨_,M,hM,rfl⟩:=z;obtain rfl:=hL.uniq hM;obtain⟨V,q2,q3,q4⟩:=adR M λe he=>⟨hL.ok e he,hL.nm e he⟩
  exact⟨V,q2,(λ_ h=>nomatch h),(λ_ h=>nomatch h),zero_le _,by show (iJ M).length<=k+1;omega,by show bV (iJ M)<=k+1;omega,M,hL.aoM,fM⟩
 all_goals
  obtain⟨_,rfl⟩:=z;exact h.mono (Nat.le_succ _)
theorem iL.line{T:Nat->List UInt8}{s s':PS}{l a:List UInt8}{k:Nat}(h:iL s k)(j:kQ T s l a s'):iL s' (k+1):=by
 unfold kQ at j;split at j
 ·rw[j.2];exact h.mono (Nat.le_succ _)
 ·rename_i c q;split at j
  ·rw[j.2];exact h.mono (Nat.le_succ _)
  ·rename_i G ns F;obtain⟨_,o,A,_,D⟩:=abw F;by_cases z:GQ c=true
   ·exact h.cmd (Ke q) o (le_trans (yB _ (A z)).2 lJ) j
   ·exact h.cmd (Ke q) o (by rw[D z];decide) j
def abx(l:List UInt8)(e:Ending):Prop:=(∃v:Int,pR l=some v/\e = .returned (.tuple #[.int .i64 v,.bool true]))\/(pR l=none/\e = .returned (.tuple #[.int .i64 0,.bool false]))
theorem SN{B:Nat}(s:ByteArray)(hs:s.size<=1000000)(w:World)(I:wo w)(J:Lib.TabBelow prog B w "internal/strconv.uint64pow10" .u64 Lib.pow10Tab)(hB:B<=w.heap.size):
  Calls prog 131 #[.string s] w λe w'=>abx s.data.toList e/\Below w.heap.size w w':=by
 have R:=(Gg s).symm;by_cases V:7<s.size
 ·have d7:decide ((7:Int)<s.size)=true:=oI;have d7':(7:Int)<s.size:=fM;have o:Hid (pR s.data.toList=none):=by
   show _=_;unfold pR;split
   ·exact if_neg λh=>fM
   ·rfl
  clear I J R;go_enter func131,ntmps131;go_wp2;go_ret2;exact⟨.inr ⟨o.out,rfl⟩,Below.refl _ _⟩
 have d7:decide ((7:Int)<s.size)=false:=oI;have HA:=ć (Rm s hs w I);have HI:Hid (∀(v:Int) z,-9223372036854775808<=v->v<=9223372036854775807->Below w.heap.size w z->Calls prog 43 #[.int .i64 v] z λe w'=>e = .returned (.string (txt (Lib.itoa v)))/\Below z.heap.size z w'):=λv z h0 h1 hz=>xE v h0 h1 z (J z (hz.mono hB))
 have fQ:=ć R;have Z:=(show Hid (¬ 7<s.size) from V);clear I J R V;go_enter func131,ntmps131;go_wp2_with fail;refine Calls.mono HA.out ?_;rintro e w1 ⟨⟨v,Q,rfl⟩|⟨Ø,x,tp,p,rfl⟩,G⟩
 ·have j:=ć G;obtain⟨Y,v1⟩:=Lib.atoiAll_bounds Q;have H:=ć Q;by_cases W:v<0
  ·have dn:decide (v<0)=true:=decide_eq_true W;have o:Hid (pR s.data.toList=none):=by
    show _=_;unfold pR;rw[H.out];exact if_neg λh=>fM
   go_wp2;go_ret2;exact⟨.inr ⟨o.out,rfl⟩,j.out⟩
  have dn:=decide_eq_false W;have D:=ć (HI.out v w1 Y v1 G);obtain⟨q,K⟩:=bF (txt (Lib.itoa v):ByteArray);rw[<-K] at D;have U:=ć K;have iI:=(show Hid (0<=v) from by show _<=_;omega);clear Q G K Y v1;go_wp2_with fail;refine Calls.mono D.out ?_;rintro e w2 ⟨rfl,ϒ⟩;have A:=ć (j.out.trans (ϒ.mono j.out.size));by_cases F:q=s
  ·have O:(q.toList==s.toList)=true:=by rw[F];simp
   have o:Hid (pR s.data.toList=some v):=by
    show _=_;unfold pR;rw[H.out];refine if_pos ⟨by have:=fQ.out;have:=Z.out;omega,iI.out,?_⟩;rw[<-F,U.out];rfl
   go_wp2;go_ret2;exact⟨.inl ⟨v,o.out,rfl⟩,A.out⟩
  ·have O:(q.toList==s.toList)=false:=by
    rw[beq_eq_false_iff_ne];intro h;rw[ByteArray.toList_eq,ByteArray.toList_eq] at h;exact F (ByteArray.ext (Array.ext' h))
   have o:Hid (pR s.data.toList=none):=by
    show _=_;unfold pR;rw[H.out];refine if_neg λh=>F ?_
    rw[U.out,h.2.2];rfl
   go_wp2;go_ret2;exact⟨.inr ⟨o.out,rfl⟩,A.out⟩
 ·have j:=ć G;have o:Hid (pR s.data.toList=none):=by
   show _=_;unfold pR;split
   ·rename_i v h;exact absurd h (Ø v)
   ·rfl
  go_wp2;go_ret2;exact⟨.inr ⟨o.out,rfl⟩,j.out⟩
theorem Ew:∀(l:List (List UInt8)) (x:List UInt8),numsL (l ++ [x])=match numsL l with
  | none=>none
  | some r=>(pR x).map λv=>r ++ [v]
 | [],x=>by
  show (match pR x with
   | none=>none
   | some v=>(numsL []).map λr=>v::r)=(pR x).map λv=>[] ++ [v]
  cases pR x with
  | none=>rfl
  | some v=>rfl
 | y::l,x=>by
  rw[cons_append,numsL,numsL,Ew l x];cases pR y with
  | none=>rfl
  | some v=>
   cases numsL l with
   | none=>rfl
   | some r=>
    cases pR x with
    | none=>rfl
    | some u=>rfl
theorem Me:∀ {l m:List (List UInt8)},numsL l=none->numsL (l++m)=none
 | [],_,h=>nomatch h
 | y::l,m,h=>by
  rw[numsL] at h;rw[cons_append,numsL];cases o:pR y with
  | none=>rfl
  | some v=>
   rw[o] at h;cases j:numsL l with
   | none=>dsimp only;rw[Me j];rfl
   | some r=>rw[j] at h;cases h
def Dn(ys:List Int):List Value:=ys.map λy=>.int .i64 y
def aby(w:World)(ss:List (List UInt8))(e:Ending)(w':World):Prop:=((numsL ss=none/\e = .returned (.tuple #[.slice none 0 0,.bool false]))\/∃ns v,numsL ss=some ns/\e = .returned (.tuple #[v,.bool true])/\w'.ownsRow w.heap.size 3 1 v ns.length (Dn ns))/\Below w.heap.size w w'
theorem SQ{B:Nat}(w:World)(Z:wo w)(hT:Lib.TabBelow prog B w "internal/strconv.uint64pow10" .u64 Lib.pow10Tab)(Y:B<=w.heap.size)(a:Option Addr)(c:Nat)(ss:List (List UInt8))(hS:xC w a ss)(F:∀x,x∈ss->x.length<=1000000)(hn:ss.length<=1000000):
  Calls prog 88 #[.slice a ss.length c] w λe w'=>aby w ss e w':=by
 obtain⟨i0,hi,ò,å,ô⟩:=info_parts Tryz.infoIntR;have qA:=ć hi;have HN:Hid (∀z (k:Nat) (D:k<ss.length),Below w.heap.size w z->Calls prog 131 #[encStr ss[k]] z λe w'=>abx ss[k] e/\Below z.heap.size z w'):=λz k D O=>by
  have:=SN (B:=B) (txt ss[k]) (by rw[dH];exact F _ (getElem_mem D)) z (Z.below O Z.lt) (λz' h'=>hT z' (Below.trans (O.mono Y) h')) (le_trans Y O.size);have e:(txt ss[k]).data.toList=ss[k]:=by simp[txt]
  rw[e] at this;exact this
 obtain⟨n,Ϝ⟩:=eB ss.length;rw[Ϝ] at hn ⊢;have iI:=ć Ϝ;have HS:Hid (xC w a ss):=hS;have H0:Hid (w.ownsRow w.heap.size 3 1 (.slice none 0 0) ([]:List Int).length (Dn [])):=⟨rfl,.inl ⟨rfl,rfl⟩⟩;go_enter func88,ntmps88;go_wp2_with fail;go_loopw [4,11] (λav U wr=>∃(j:Nat) (ns:List Int),j<=n/\U = .int .i64 (j:Int)/\numsL (ss.take j)=some ns/\ns.length=j/\wr.ownsRow w.heap.size 3 1 av j (Dn ns)/\Below w.heap.size w wr) (λ_ U _=>n-(intOf U).toNat);case atStart=>exact⟨0,[],zero_le _,by first|rfl|go_num,rfl,rfl,H0.out,Below.refl _ _⟩
 case round=>
  obtain⟨j,ns,hj,rfl,â,ø,V,G⟩:=hrel;have I:=ć (And.intro â ø);have mQ:=ć G;by_cases Q:j<n
  ·have q:j<ss.length:=by rw[iI.out];exact Q
   obtain⟨g,o,rfl,hc⟩:=(HS.out.below G) j q;obtain⟨u,hu⟩:∃u:ByteArray,(encStr ss[j]) = .string u:=⟨_,rfl⟩;have W:=ć (HN.out wr j q G);rw[hu] at hc W;obtain⟨aa,ac,rfl⟩:∃z1 z2,u4 = .slice z1 j z2:=bB V;have H:=ć V;have j0:(0:Int)<=j:=fM;have j1:(j:Int)<n:=fM;go_wp2_with fail;refine Calls.mono W.out ?_;rintro e A ⟨Ø,Ϛ⟩;have ī:=take_succ_eq_append_getElem q;have J:=mQ.out.trans (Ϛ.mono mQ.out.size);rcases Ø with⟨v,hv,rfl⟩|⟨hv,rfl⟩
   ·have R:numsL (ss.take (j+1))=some (ns ++ [v]):=by rw[ī,Ew,I.out.1,hv];rfl
    have lC:Hid ((A.alloc (.cells #[.int .i64 v] 3)).ownsRow w.heap.size 3 1 (.slice aa j ac) j (Dn ns)):=(aX H.out Ϛ).alloc _;have gY:Hid (∀i z,([.int .i64 v]:List Value)[i]? = some z->(A.alloc (.cells #[.int .i64 v] 3)).cell? ((⟨A.heap.size,0,none⟩:Addr).add i)=some z):=World.news_of_block (heap_alloc_new A _);have ko:Hid (∀z∈([.int .i64 v]:List Value),z.oneCell'=true):=by
     intro z F;simp at F;subst F;rfl
    have ė:=J.size;have yZ:=ć (And.intro R J);go_wp2_with (at_builtin;refine wpList_append_lies _ rfl _ _ 35 rfl w.heap.size 3 i0 (.int .i64 0) 1 8 underlying35 qA.out ò å ô rfl lJ _ _ _ rfl lC.out ⟨A.heap.size,0,none⟩ 1 1 [.int .i64 v] rfl rfl gY.out ko.out fM (by unfold maxLen;omega) fM oI _ rfl ?_);intro g7 dQ w7 bR dY _ _;have jl:Hid (w7.ownsRow w.heap.size 3 1 (.slice (some ⟨g7,0,none⟩) (j+1) dQ) (j+1) (Dn (ns ++ [v]))/\Below w.heap.size w w7):=⟨by unfold Dn at *;rw[map_append];exact bR,(yZ.out.2.alloc ė _).grown dY oI (λk D=>(lC.out.lt k D).1)⟩;go_wp2;go_roundw;case rel=>exact⟨j+1,_,fM,rU,yZ.out.1,by rw[length_append,I.out.2];rfl,jl.out⟩
    case measure=>simp[intOf]<;>omega
   ·have sJ:Hid (numsL ss=none):=by
     show _=_;rw[<-take_append_drop (j+1) ss];exact Me (by rw[ī,Ew,I.out.1,hv];rfl)
    have K:=ć J;go_wp2;go_ret2;exact⟨.inl ⟨sJ.out,rfl⟩,K.out⟩
  ·obtain rfl:j=n:=fM;have Ϟ:numsL ss=some ns:=by rw[<-â,<-iI.out,take_length]
   have qP:Hid (aby w ss (.returned (.tuple #[u4,.bool true])) wr):=⟨.inr ⟨ns,u4,Ϟ,rfl,by rw[ø];exact V⟩,G⟩;go_wp2;go_ret2;exact qP.out
def adV:Nat->Value
 | 0=>.agg #[.bool true,.int .i64 2,.bool false,.func (.func 22) #[] #[]]
 | 1=>.agg #[.bool false,.int .i64 1,.bool false,.func (.func 23) #[] #[]]
 | 2=>.agg #[.bool false,.int .i64 0,.bool false,.func (.func 24) #[] #[]]
 | 3=>.agg #[.bool false,.int .i64 1,.bool false,.func (.func 25) #[] #[]]
 | 4=>.agg #[.bool false,.int .i64 0,.bool false,.func (.func 26) #[] #[]]
 | 5=>.agg #[.bool true,.int .i64 2,.bool false,.func (.func 27) #[] #[]]
 | 6=>.agg #[.bool true,.int .i64 2,.bool false,.func (.func 28) #[] #[]]
 | 7=>.agg #[.bool false,.int .i64 0,.bool false,.func (.func 29) #[] #[]]
 | _=>.agg #[.bool false,.int .i64 1,.bool true,.func (.func 30) #[] #[]]
def look(k:List UInt8):List (List UInt8×Value)->Option Value
 | []=>none
 | e::r=>if k=e.1 then some e.2 else look k r
def MapAt(w:World)(mb n:Nat)(E:List (List UInt8×Value)):Prop:=∃D,w.ownsMap prog 9 fO mb n D/\(∀k,Maps.has D (.string k)=(look k E).isSome)/\∀k v,look k E=some v->∀z,D.atKey (.string k) z = .held v
theorem adW(s:ByteArray)(j:s.size<=1000000):keyOf prog 9 (.string s)=some (.string s.data.toList):=Go.WideMaps.keyOf_string_mk underlying9 (by unfold maxLen;omega)
theorem MapAt.put{w:World}{q n:Nat}{E:List (List UInt8×Value)}(h:MapAt w q n E)(Q:n<1000)(s:ByteArray)(R:s.size<=1000)(v:Value):
  ∃w',(Instr.mapUpdate 46 (.map (some q)) (.string s) v).run prog w = .ok () w'/\MapAt w' q (n+1) ((s.data.toList,v)::E)/\w.grownBy w' (some q):=by
 obtain⟨D,A,H,I⟩:=h;obtain⟨w',O,K,J⟩:=A.update qI underlying46 (show n<maxLen by unfold maxLen;omega) (adW s fM) (val:=v) (d:=.held v) (ps:=[]) rfl;have F:WideAt.IsKeyLit (.string s.data.toList):=qI.key (adW s fM);have G:∀k j:List UInt8,k≠j->(Lit.string k) ≠ .string j:=λk j e h=>by injection h with h;exact e h
 refine⟨w',O,⟨_,K,λk=>?_,λk u o z=>?_⟩,J⟩
 ·rw[look];by_cases e:k=s.data.toList
  ·rw[if_pos e,e,has_put_same A.isMap F];rfl
  ·rw[if_neg e,has_put_other (G _ _ e),H]
 ·rw[look] at o;by_cases e:k=s.data.toList
  ·rw[if_pos e] at o;injection o with o;subst o;rw[e];exact atKey_put_same A.isMap F _ _
  ·rw[if_neg e] at o;rw[atKey_put_other (G _ _ e),I k u o]
theorem MapAt.same{w w':World}{j n:Nat}{E:List (List UInt8×Value)}(h:MapAt w j n E)(z:w'.heap[j]? = w.heap[j]?):MapAt w' j n E:=by
 obtain⟨D,o,q⟩:=h;exact⟨D,jv o z,q⟩
theorem MapAt.lt{w:World}{j n:Nat}{E:List (List UInt8×Value)}(h:MapAt w j n E):j<w.heap.size:=by
 obtain⟨D,o,_⟩:=h;exact o.lt
abbrev adX:Value:=.agg #[.bool false,.int .i64 0,.bool false,.nilFunc]
theorem agH(w:World):(zeroValue 68).run prog w = .ok adX w:=iX
theorem MapAt.look{w:World}{F n:Nat}{E:List (List UInt8×Value)}(h:MapAt w F n E)(s:ByteArray)(J:s.size<=1000000):
  (look s.data.toList E=none/\∃v,(Instr.lookup 46 (.map (some F)) (.string s) true).run prog w = .ok (.tuple #[v,.bool false]) w/\v=adX)\/∃v,look s.data.toList E=some v/\(Instr.lookup 46 (.map (some F)) (.string s) true).run prog w = .ok (.tuple #[v,.bool true]) w:=by
 obtain⟨D,G,H,I⟩:=h;obtain⟨v,ps,z,j⟩:=G.look_ok qI underlying46 (agH w) (zd:=.held adX) (zp:=[]) rfl (adW s J);simp only[fO,Option.some.injEq,Prod.mk.injEq] at j;have o:=H s.data.toList;cases A:Go.Proofs.YtnjmhjdhfaboaaaGreatDoor.look s.data.toList E with
 | none=>
  rw[A] at o;have q:Maps.has D (.string s.data.toList)=false:=o;rw[atKey_of_not_has q] at j;rw[q] at z;have:=j.1;injection this with this;exact .inl ⟨rfl,v,z,this⟩
 | some u=>
  rw[A] at o;have q:Maps.has D (.string s.data.toList)=true:=o;rw[I _ u A] at j;rw[q] at z;have:=j.1;injection this with this;subst this;exact .inr ⟨v,rfl,z⟩
def SS:List (List UInt8×Value):=[([99,104,117,110,107],.agg #[.bool false,.int .i64 1,.bool true,.func (.func 30) #[] #[]]),([98,108,111,99,107,115],.agg #[.bool false,.int .i64 0,.bool false,.func (.func 29) #[] #[]]),([115,117,109],.agg #[.bool true,.int .i64 2,.bool false,.func (.func 28) #[] #[]]),([103,101,116],.agg #[.bool true,.int .i64 2,.bool false,.func (.func 27) #[] #[]]),([98,111,111,116],.agg #[.bool false,.int .i64 0,.bool false,.func (.func 26) #[] #[]]),([99,117,116],.agg #[.bool false,.int .i64 1,.bool false,.func (.func 25) #[] #[]]),([99,111,109,112,97,99,116],.agg #[.bool false,.int .i64 0,.bool false,.func (.func 24) #[] #[]]),([102,108,117,115,104],.agg #[.bool false,.int .i64 1,.bool false,.func (.func 23) #[] #[]]),([97,100,100],.agg #[.bool true,.int .i64 2,.bool false,.func (.func 22) #[] #[]])]
theorem abz(k:List UInt8):look k SS=(sj k).map adV:=by
 unfold sj;simp only[SS,look];repeat' (split;· rfl)
 rfl
theorem Nh(w:World):Calls prog 14 #[] w λe w'=>∃A,e = .returned (.map (some A))/\MapAt w' A 9 SS/\Below w.heap.size w w'/\w.heap.size<=A:=by
 have h0:MapAt (w.alloc (.map #[] 0)) w.heap.size 0 []:=⟨_,World.ownsMap_made w prog 9 fO,λk=>rfl,λk v h=>nomatch h⟩;have I:Below w.heap.size w (w.alloc (.map #[] 0)):=(Below.refl _ _).alloc (le_refl _) _;have j:∀ {z H:World},Below w.heap.size w z->z.grownBy H (some w.heap.size)->Below w.heap.size w H:=λo q=>⟨q.os.trans o.os,q.tape.trans o.tape,q.output.trans o.output,le_trans o.size q.size,λx F=>(q.block x (lt_of_lt_of_le F o.size) (λe=>by injection e with e;omega)).trans (o.block x F)⟩
 obtain⟨w1,r1,h1,Z⟩:=h0.put lJ ⟨#[97,100,100]⟩ lJ (.agg #[.bool true,.int .i64 2,.bool false,.func (.func 22) #[] #[]]);have J:=j I Z;obtain⟨w2,r2,h2,g2⟩:=h1.put lJ ⟨#[102,108,117,115,104]⟩ lJ (.agg #[.bool false,.int .i64 1,.bool false,.func (.func 23) #[] #[]]);have K:=j J g2;obtain⟨w3,r3,h3,g3⟩:=h2.put lJ ⟨#[99,111,109,112,97,99,116]⟩ lJ (.agg #[.bool false,.int .i64 0,.bool false,.func (.func 24) #[] #[]]);have O:=j K g3;obtain⟨w4,r4,h4,g4⟩:=h3.put lJ ⟨#[99,117,116]⟩ lJ (.agg #[.bool false,.int .i64 1,.bool false,.func (.func 25) #[] #[]]);have Q:=j O g4;obtain⟨w5,r5,h5,g5⟩:=h4.put lJ ⟨#[98,111,111,116]⟩ lJ (.agg #[.bool false,.int .i64 0,.bool false,.func (.func 26) #[] #[]]);have R:=j Q g5;obtain⟨w6,r6,h6,g6⟩:=h5.put lJ ⟨#[103,101,116]⟩ lJ (.agg #[.bool true,.int .i64 2,.bool false,.func (.func 27) #[] #[]]);have U:=j R g6;obtain⟨w7,r7,h7,g7⟩:=h6.put lJ ⟨#[115,117,109]⟩ lJ (.agg #[.bool true,.int .i64 2,.bool false,.func (.func 28) #[] #[]]);have V:=j U g7;obtain⟨w8,r8,h8,g8⟩:=h7.put lJ ⟨#[98,108,111,99,107,115]⟩ lJ (.agg #[.bool false,.int .i64 0,.bool false,.func (.func 29) #[] #[]]);have W:=j V g8;obtain⟨G,r9,h9,g9⟩:=h8.put lJ ⟨#[99,104,117,110,107]⟩ lJ (.agg #[.bool false,.int .i64 1,.bool true,.func (.func 30) #[] #[]]);have Y:=j W g9;have D:Hid (MapAt G w.heap.size 9 SS/\Below w.heap.size w G):=⟨h9,Y⟩;have hmm:=@run_makeMap prog;go_enter func14,ntmps14;go_wp2;go_ret;exact⟨_,rfl,D.out.1,D.out.2,le_refl _⟩
theorem SV(c:UInt8):∀(l j:List UInt8),∃h t,uh c j l=h::t
 | [],j=>⟨j,[],rfl⟩
 | b::r,j=>by
  rw[uh];split
  ·exact⟨_,_,rfl⟩
  ·exact SV c r _
theorem Ni(c:UInt8):∀(l j:List UInt8),(uh c j l).length<=l.length+1/\∀x,x∈uh c j l->x.length<=j.length+l.length
 | [],j=>⟨le_refl _,λx o=>by rw[mem_singleton.1 o];simp⟩
 | b::r,j=>by
  rw[uh];split
  ·obtain⟨z,q⟩:=Ni c r [];refine⟨by simp only[length_cons] at *;omega,λx o=>?_⟩;rcases mem_cons.1 o with rfl|o
   ·omega
   ·have:=q x o;simp only[length_cons,length_nil] at *;omega
  ·obtain⟨z,q⟩:=Ni c r (j ++ [b]);refine⟨by simp only[length_cons] at *;omega,λx o=>?_⟩;have:=q x o;simp only[length_append,length_cons,length_nil] at *;omega
theorem SX(w:World)(m:Int)(Y:w.cell? ⟨13,0,none⟩=some (.int .i64 m))(s:ByteArray)(Z:s.size<=1000000):
  Calls prog 54 #[.string s] w λe w'=>∃h t a c,uh 32 [] s.data.toList=h::t/\e = .returned (.tuple #[encStr h,.slice a t.length c])/\xC w' a t/\t.length<=c/\Below w.heap.size w w':=by
 have o:=ć (abn s Z m w Y);obtain⟨h,t,R⟩:=SV 32 s.data.toList [];rw[R] at o;have H:=ć R;go_enter func54,ntmps54;go_wp2_with fail;refine Calls.mono o.out ?_;rintro e w1 ⟨n,Q,rfl,F⟩;have z:w1.heap[w.heap.size]? = some (.cells ((((h::t).map txt).map Value.string).toArray) 9 (0,0)):=by rw[F];exact heap_alloc_new _ _
 have K:Below w.heap.size w w1:=by rw[F];exact (Below.refl _ _).alloc (le_refl _) _
 obtain⟨g,O⟩:=bF w.heap.size;rw[<-O] at z ⊢;have V:w1.cell? ⟨g,0,none⟩=some (.string (txt h)):=(ak z 0).trans rQ;have U:∀k (q:k<t.length),w1.cell? ⟨g,1+k,none⟩=some (encStr t[k]):=λk q=>(ak z (1+k)).trans (by
  rw[add_comm];simp[q];rfl)
 have A:=ć (And.intro K U);obtain⟨u,D⟩:=bF (txt h:ByteArray);rw[<-D] at V;have I:=ć D;have Ù:n=t.length+1:=Q;clear F z K O Q U D o;by_cases J:t = []
 ·subst J;obtain rfl:n=1:=Ù;go_wp2_with fail;go_quiet (fail);go_wp2;go_ret2;exact⟨h,[],_,_,H.out,by rw[I.out];rfl,λk q=>absurd q (not_lt_zero _),zero_le _,below_draws A.out.1 _⟩
 ·obtain⟨k,q⟩:∃k,t.length=k+1:=⟨t.length-1,by have:=length_pos_iff.2 J;omega⟩;obtain rfl:n=k+2:=fM;have G:=ć q;go_wp2_with fail;go_quiet (fail);go_wp2;go_ret2;refine⟨h,t,some ⟨g,1,none⟩,k+1,H.out,by rw[I.out,G.out];rfl,λj W=>⟨g,1,rfl,A.out.2 j W⟩,by rw[G.out];exact le_refl _,below_draws A.out.1 _⟩
theorem agI{B:Nat}{ea:Nat->Addr}(z:World)(E:oN B ea z)(k:List UInt8)(G:k.length<=100000):
  Calls prog 87 #[encStr k] z λe o=>∃x v,e = .returned (.tuple #[x,v])/\Below z.heap.size z o/\((bI k=0/\v = .nilIface/\o.ownsRow z.heap.size 54 2 x (fV k).length (eP (fV k)))\/(bI k≠0/\∃t p,v = .iface t (.pointer (some p)))):=by
 have h:=Ai z E.sO.c0 E.sO.c1 E.c2 E.c3 (txt k) (by rw[dH];exact G);refine h.mono ?_;rintro e o ⟨x,v,rfl,F,A⟩;have D:(txt k).data.toList=k:=by simp[txt]
 rw[D] at A;refine⟨x,v,rfl,F,?_⟩;rcases A with⟨hs,_,hf⟩|⟨out,hs,hf,_,ho,_⟩
 ·have q:bI k=1:=by unfold bI;rw[hs]
  exact .inr ⟨fM,mq hf lJ⟩
 ·have q:bI k=fC (nameAt out) (cK out) out.length:=by unfold bI;rw[hs]
  have H:fV k=out:=by unfold fV;rw[hs];rfl
  rw[<-q] at hf ho;by_cases j:bI k=0
  ·rw[j] at hf;exact .inl ⟨j,hf.none rfl,by rw[H];exact ho j⟩
  ·exact .inr ⟨j,mq hf j⟩
theorem adY(g o n c:Nat)(A:1<=n)(z:n<=c):∃a',(∀W,(Instr.sliceAt 22 (.slice (some ⟨g,o,none⟩) n c) (some (.int .i64 1)) none none).run prog W = .ok (.slice a' (n-1) (c-1)) W)/\(2<=n->a'=some ⟨g,o+1,none⟩):=by
 have h:∀W,(Instr.sliceAt 22 (.slice (some ⟨g,o,none⟩) n c) (some (.int .i64 1)) none none).run prog W = .ok (.slice (if c=1 then some ⟨g,o,none⟩ else some ⟨g,o+1,none⟩) (n-1) (c-1)) W:=λW=>by
  have q:(1:Int)<=n:=fM;by_cases j:c=1
  ·subst j;go_simp
  ·go_simp
 exact⟨_,h,λj=>if_neg fM⟩
abbrev aj4:Value:=.agg #[.string ⟨#[]⟩,.slice none 0 0,.slice none 0 0]
def GR(w:World)(L:Bool)(N:Nat)(M:Bool)(ss:List (List UInt8))(e:Ending)(w':World):Prop:=
 ((Ma L N M ss=none/\e = .returned (.tuple #[aj4,.bool false]))\/∃k ns lv nv,Ma L N M ss=some (k,ns)/\e = .returned (.tuple #[.agg #[encStr k,lv,nv],.bool true])/\w'.ownsRow w.heap.size 3 1 nv ns.length (Dn ns)/\((L=true/\bI k=0/\w'.ownsRow w.heap.size 54 2 lv (fV k).length (eP (fV k)))\/(L=false/\lv = .slice none 0 0)))/\Below w.heap.size w w'
theorem alk{z:World}{b:Nat}{p q r:Value}{t:TypeId}(h:z.heap[b]? = some (.cells #[p,q,r] t (0,0)))(u v x:Value):(((z.setCell ⟨b,0,none⟩ u).setCell ⟨b,1,none⟩ v).setCell ⟨b,2,none⟩ x).heap[b]? = some (.cells #[u,v,x] t (0,0))/\(∀y,y≠b->(((z.setCell ⟨b,0,none⟩ u).setCell ⟨b,1,none⟩ v).setCell ⟨b,2,none⟩ x).heap[y]? = z.heap[y]?)/\∀ {B:Nat} {w:World},Below B w z->B<=b->Below B w (((z.setCell ⟨b,0,none⟩ u).setCell ⟨b,1,none⟩ v).setCell ⟨b,2,none⟩ x):=by
 have A:=(dw h 0 u).trans rfl;have D:=(dw A 1 v).trans rfl;exact⟨(dw D 2 x).trans rfl,λy o=>((Below.heap_setCell _ _ _ _ o).trans (Below.heap_setCell _ _ _ _ o)).trans (Below.heap_setCell _ _ _ _ o),λF j=>((F.setCell (p:=⟨b,0,none⟩) j _).setCell (p:=⟨b,1,none⟩) j _).setCell (p:=⟨b,2,none⟩) j _⟩
structure Yy(w wr:World)(b:Nat)(L:Bool)(N:Nat)(M:Bool)(fn:Nat)(ss:List (List UInt8))(k:List UInt8)(rest:List (List UInt8))(lv:Value)(a':Option Addr)(c':Nat):Prop where
 aI:Below w.heap.size w wr
 low:w.heap.size<=b
 b0:wr.heap[b]? = some (.cells #[.bool L,.int .i64 (N:Int),.bool M,.func (.func fn) #[] #[]] 68 (0,0))
 b1:wr.heap[b+1]? = some (.cells #[.string ⟨#[]⟩,.slice none 0 0,.slice none 0 0] 88 (0,0))
 b2:wr.heap[b+1+1]? = some (.cells #[encStr k,lv,.slice none 0 0] 88 (0,0))
 str:xC wr a' rest
 cap:rest.length<=c'
 rd:Ma L N M ss=Dm N M k rest
 lab:(L=true/\bI k=0/\wr.ownsRow w.heap.size 54 2 lv (fV k).length (eP (fV k))/\∀x,lv.ownBlock=some x->b+1+1<x)\/(L=false/\lv = .slice none 0 0)
 sub:∀x,x∈rest->x∈ss
 len:rest.length<=ss.length
theorem Yz{B:Nat}{ea:Nat->Addr}{T:Nat->List UInt8}(w:World)(E:oP B ea T w)(hB:B<=w.heap.size)(L:Bool)(N:Nat)(M:Bool)(U:Nat)(a:Option Addr)(c:Nat)(ss:List (List UInt8))(hS:xC w a ss)(hc:ss.length<=c)(hz:∀x,x∈ss->x.length<=100000)(hn:ss.length<=1000000):
  Calls prog 55 #[.agg #[.bool L,.int .i64 (N:Int),.bool M,.func (.func U) #[] #[]],.slice a ss.length c] w λe w'=>GR w L N M ss e w':=by
 have HE:=ć E;have HZ:=ć hz;have HS:Hid (xC w a ss):=hS;obtain⟨n,Ϝ⟩:=eB ss.length;rw[Ϝ] at hn hc ⊢;have iI:=ć Ϝ;obtain⟨W,hW⟩:=bF (((w.alloc (.cells #[.bool L,.int .i64 (N:Int),.bool M,.func (.func U) #[] #[]] 68)).alloc (.cells #[.string ⟨#[]⟩,.slice none 0 0,.slice none 0 0] 88)).alloc (.cells #[.string ⟨#[]⟩,.slice none 0 0,.slice none 0 0] 88));have ώ:Below w.heap.size w (w.alloc (.cells #[.bool L,.int .i64 (N:Int),.bool M,.func (.func U) #[] #[]] 68)):=(Below.refl _ _).alloc (le_refl _) _;have Ϗ:Below w.heap.size w W:=by rw[hW];exact (ώ.alloc rQ _).alloc oI _
 have x0:W.heap[w.heap.size]? = some (.cells #[.bool L,.int .i64 (N:Int),.bool M,.func (.func U) #[] #[]] 68 (0,0)):=by
  rw[hW,heap_alloc_old _ _ (h:=oI),heap_alloc_old _ _ (h:=rQ)];exact heap_alloc_new _ _
 have Q:W.heap[w.heap.size+1]? = some (.cells #[.string ⟨#[]⟩,.slice none 0 0,.slice none 0 0] 88 (0,0)):=by
  rw[hW,heap_alloc_old _ _ (h:=rQ)];simpa using heap_alloc_new (w.alloc (.cells #[.bool L,.int .i64 (N:Int),.bool M,.func (.func U) #[] #[]] 68)) (.cells #[.string ⟨#[]⟩,.slice none 0 0,.slice none 0 0] 88)
 have x2:W.heap[w.heap.size+1+1]? = some (.cells #[.string ⟨#[]⟩,.slice none 0 0,.slice none 0 0] 88 (0,0)):=by
  rw[hW];simpa using heap_alloc_new ((w.alloc (.cells #[.bool L,.int .i64 (N:Int),.bool M,.func (.func U) #[] #[]] 68)).alloc (.cells #[.string ⟨#[]⟩,.slice none 0 0,.slice none 0 0] 88)) (.cells #[.string ⟨#[]⟩,.slice none 0 0,.slice none 0 0] 88)
 obtain⟨b,hb⟩:=bF w.heap.size;have bQ:=ć Ϗ;rw[<-hb] at x0 Q x2;have HX:=ć (And.intro x0 (And.intro Q x2));have HW:Hid (∀wx,wx=((w.alloc (.cells #[.bool L,.int .i64 (N:Int),.bool M,.func (.func U) #[] #[]] 68)).alloc (.cells #[.string ⟨#[]⟩,.slice none 0 0,.slice none 0 0] 88)).alloc (.cells #[.string ⟨#[]⟩,.slice none 0 0,.slice none 0 0] 88)->wx=W):=λwx hx=>hx.trans hW.symm
 have Ü:w.heap.size<=b:=by rw[hb];exact le_refl _
 have VO:=ć Ü;have mX:Hid (∀(z:World) (p q r v0 v1 v2:Value) (f:Bool),z.heap[b+1]? = some (.cells #[p,q,r] 88 (0,0))->Below w.heap.size w z->(∀Z,Below w.heap.size w Z->(∀x,x≠b+1->Z.heap[x]? = z.heap[x]?)->GR w L N M ss (.returned (.tuple #[.agg #[v0,v1,v2],.bool f])) Z)->∀a:Act,a.tmps[4]?.getD undef = .pointer (some ⟨b+1,0,none⟩)->a.tmps[5]?.getD undef = .bool f->a.defers = []->bodyPost prog Tryz.f55 (λe w'=>GR w L N M ss e w') Exit.ret a (((z.setCell ⟨b+1,0,none⟩ v0).setCell ⟨b+1,1,none⟩ v1).setCell ⟨b+1,2,none⟩ v2)):=λz p q r v0 v1 v2 f hz Ò ĩ a h4 h5 hd=>by
  obtain⟨H,h2,h3⟩:=alk hz v0 v1 v2;obtain⟨Z,G⟩:=bF (((z.setCell ⟨b+1,0,none⟩ v0).setCell ⟨b+1,1,none⟩ v1).setCell ⟨b+1,2,none⟩ v2);have h3:=h3 Ò fM;rw[<-G] at H h2 h3 ⊢;have z0:=ak H 0;have z1:=ak H 1;have z2:=ak H 2;simp at z0 z1 z2;exact bodyPost_ret (v:=.tuple #[.agg #[v0,v1,v2],.bool f]) (by simp[results,results55,go_sem,z0,z1,z2,h4,h5]) hd (ĩ Z h3 h2)
 have c0:=ak x0 0;clear hW ώ Ϗ x0 Q x2 Ü;simp at c0;go_enter func55,ntmps55;go_upto_region 2 with fail;rw[HW.out _ rfl,<-hb];clear HW hb;go_upto_if 12 with fail;go_cut [1,5] from 7 to 34 (λv1 v5 wz=>v5 = .bool false/\∃k rest lv a' c',v1 = .slice a' rest.length c'/\Yy w wz b L N M U ss k rest lv a' c');case first=>
  cases L with
  | false=>
   go_wp2_with fail;go_meet;exact⟨rfl,[],ss,.slice none 0 0,a,c,by rw[iI.out],bQ.out,VO.out,HX.out.1,HX.out.2.1,HX.out.2.2,HS.out.below bQ.out,by rw[iI.out];exact hc,rfl,.inr ⟨rfl,rfl⟩,λx h=>h,le_refl _⟩
  | true=>
   obtain⟨x0,Q,x2⟩:=HX.out;have Y:=ak Q 0;have y1:=ak Q 1;have y2:=ak Q 2;have f0:=aA Q 0;have f1:=aA Q 1;have f2:=aA Q 2;simp at Y y1 y2;by_cases h0:n=0
   ·subst h0;have R:Hid (Ma true N M ss=none):=by
     show _=_;rw[eq_nil_of_length_eq_zero iI.out];rfl
    go_wp2;exact mX.out W _ _ _ _ _ _ false HX.out.2.1 bQ.out (λZ G _=>⟨.inl ⟨R.out,rfl⟩,G⟩) _ rfl rfl rfl
   ·obtain⟨k,rest,V⟩:∃k rest,ss=k::rest:=by
     cases hs:ss with
     | nil=>have:=iI.out;rw[hs] at this;exact absurd this.symm h0
     | cons k rest=>exact⟨k,rest,rfl⟩
    have hnr:n=rest.length+1:=by rw[<-iI.out,V];rfl
    obtain⟨g,o,rfl,aj5⟩:=(HS.out.below bQ.out) 0 (by rw[iI.out];omega);have hcg:W.cell? ⟨g,o,none⟩=some (encStr k):=by simpa [V] using aj5
    clear aj5;obtain⟨u,hu⟩:∃u:ByteArray,encStr k = .string u:=⟨_,rfl⟩;have IE:=ć (agI W (HE.out.below bQ.out hB).z.x.k k (HZ.out k (by rw[V];exact mem_cons_self ..)));rw[hu] at hcg IE;have HK:=ć (And.intro V (And.intro hnr hu));have d0:((n:Int)==0)=false:=rV
    have i1:(0:Int)<n:=fM;have i2:0<n:=fM;clear V hnr hu;go_wp2_with fail;refine Calls.mono IE.out ?_;rintro e w1 ⟨x,v,rfl,ώ,hr⟩;obtain⟨x0,Q,x2⟩:=HX.out;have J:Hid (w1.heap[b]? = some (.cells #[.bool true,.int .i64 (N:Int),.bool M,.func (.func U) #[] #[]] 68 (0,0))/\w1.heap[b+1]? = some (.cells #[.string ⟨#[]⟩,.slice none 0 0,.slice none 0 0] 88 (0,0))/\w1.heap[b+1+1]? = some (.cells #[.string ⟨#[]⟩,.slice none 0 0,.slice none 0 0] 88 (0,0))):=⟨(ώ.block _ (aC x0)).trans x0,(ώ.block _ (aC Q)).trans Q,(ώ.block _ (aC x2)).trans x2⟩;have HB1:=ć (bQ.out.trans (ώ.mono bQ.out.size));rcases hr with⟨ď,rfl,O⟩|⟨ď,t,p,rfl⟩
    ·obtain⟨a',ę,ha'⟩:=adY g o n c fM hc;have Y:=ak J.out.2.2 0;have y1:=ak J.out.2.2 1;have f0:=aA J.out.2.2 0;have f1:=aA J.out.2.2 1;simp at Y y1;obtain⟨xa,xc,rfl,_,_⟩:=zX O;have ash:=(ώ.cell (World.block_lt_of_cell? W ⟨g,o,none⟩ hcg)).trans hcg;have Ro:Hid (Yy w (((w1.setCell ⟨b+1+1,0,none⟩ (.string u)).setCell ⟨b+1+1,1,none⟩ (.slice xa (fV k).length xc)).drew) b true N M U ss k rest (.slice xa (fV k).length xc) a' (c-1)):=by
      obtain⟨V,hnr,hu⟩:=HK.out;have hlo:=VO.out;have h2:(w1.setCell ⟨b+1+1,0,none⟩ (.string u)).heap[b+1+1]? = some (.cells #[.string u,.slice none 0 0,.slice none 0 0] 88 (0,0)):=(dw J.out.2.2 0 _).trans rfl;have h3:=(dw h2 1 (.slice xa (fV k).length xc)).trans rfl;have á:∀y,y≠b+1+1->((w1.setCell ⟨b+1+1,0,none⟩ (.string u)).setCell ⟨b+1+1,1,none⟩ (.slice xa (fV k).length xc)).heap[y]? = w1.heap[y]?:=λy hy=>(Below.heap_setCell _ _ _ _ hy).trans (Below.heap_setCell _ _ _ _ hy)
      have vE:Below w.heap.size w ((w1.setCell ⟨b+1+1,0,none⟩ (.string u)).setCell ⟨b+1+1,1,none⟩ (.slice xa (fV k).length xc)):=(HB1.out.setCell (p:=⟨b+1+1,0,none⟩) (by show _<=b+1+1;omega) _).setCell (p:=⟨b+1+1,1,none⟩) (by show _<=b+1+1;omega) _;have hWb:=aC HX.out.2.2;refine⟨dA vE,hlo,(á b fM).trans J.out.1,(á (b+1) fM).trans J.out.2.1,by rw[hu];exact h3,λj hj=>?_,fM,?_,.inl ⟨rfl,ď,bC (gD O bQ.out.size) λy hy=>á y (by have:=(aH O hy).1;omega),λy hy=>by have:=(aH O hy).1;omega⟩,λy hy=>by rw[V];exact mem_cons_of_mem _ hy,by rw[V];simp⟩
      ·obtain⟨g',o',e',hc'⟩:=HS.out (j+1) (by rw[V];simp;omega);injection e' with e';injection e' with F K _;subst F K;refine⟨g,o+1,ha' fM,?_⟩;rw[show o+1+j=o+(j+1) by omega];refine (show _ from (dA vE).cell (p:=⟨g,o+(j+1),none⟩) (World.block_lt_of_cell? w ⟨g,o+(j+1),none⟩ hc')).trans (hc'.trans ?_);simp[V]
      ·rw[V];exact if_pos ď
     go_wp2_with fail;go_region;go_wp2_with fail;go_meet;exact⟨rfl,k,rest,_,a',c-1,by rw[HK.out.2.1];rfl,Ro.out⟩
    ·have Y:=ak J.out.2.1 0;have y1:=ak J.out.2.1 1;have y2:=ak J.out.2.1 2;have f0:=aA J.out.2.1 0;have f1:=aA J.out.2.1 1;have f2:=aA J.out.2.1 2;simp at Y y1 y2;have R:Hid (Ma true N M ss=none):=by
      show _=_;rw[HK.out.1];exact if_neg ď
     go_wp2;exact mX.out w1 _ _ _ _ _ _ false J.out.2.1 HB1.out (λZ G _=>⟨.inl ⟨R.out,rfl⟩,G⟩) _ rfl rfl rfl
 case rest=>
  obtain⟨rfl,k,rest,lv,a',c',rfl,A⟩:=hcut;have D:=(show Hid (Yy w wc b L N M U ss k rest lv a' c') from A);have z1:=ak A.b0 1;have z2:=ak A.b0 2;have ŧ:=A.len;rw[iI.out] at ŧ;simp at z1 z2;obtain⟨m,Ţ⟩:=bF rest.length;rw[<-Ţ] at ŧ ⊢;have IY:=ć Ţ;have yD:=ć (SQ wc (HE.out.below A.aI hB).z.x.a.w.str (HE.out.below A.aI hB).z.x.a.w.pow (le_trans hB A.aI.size) a' c' rest A.str (λx hx=>by have:=HZ.out x (A.sub x hx);omega) fM);have Y:=ak A.b1 0;have y1:=ak A.b1 1;have y2:=ak A.b1 2;have f0:=aA A.b1 0;have f1:=aA A.b1 1;have f2:=aA A.b1 2;simp at Y y1 y2;rw[<-Ţ] at yD;clear A Ţ;have sJ:Hid (Dm N M k rest=none->∀Z,Below w.heap.size w Z->GR w L N M ss (.returned (.tuple #[.agg #[.string ⟨#[]⟩,.slice none 0 0,.slice none 0 0],.bool false])) Z):=λh Z G=>⟨.inl ⟨D.out.rd.trans h,rfl⟩,G⟩
  by_cases ϗ:m<N
  ·have d1:decide ((m:Int)<N)=true:=oI;have d1':(m:Int)<N:=fM;have R:Hid (Dm N M k rest=none):=if_pos (.inl (by rw[<-IY.out];exact ϗ));go_wp2;exact mX.out wc _ _ _ _ _ _ false D.out.b1 D.out.aI (λZ G _=>sJ.out R.out Z G) _ rfl rfl rfl
  ·have d1:decide ((m:Int)<N)=false:=oI;have d1':decide (m<N)=false:=oI;by_cases hgt:N<m/\M=false
   ·obtain⟨H,rfl⟩:=hgt;have d2:decide ((N:Int)<m)=true:=oI;have d2':(N:Int)<m:=fM;have R:Hid (Dm N false k rest=none):=if_pos (.inr ⟨by rw[<-IY.out];exact H,rfl⟩);go_wp2;exact mX.out wc _ _ _ _ _ _ false D.out.b1 D.out.aI (λZ G _=>sJ.out R.out Z G) _ rfl rfl rfl
   ·have kS:Hid (Dm N M k rest=(numsL rest).map λns=>(k,ns)):=if_neg λh=>by
     rw[<-IY.out] at h;rcases h with h|h
     ·exact ϗ h
     ·exact hgt h
    have hcase:(N<m/\M=true)\/(decide (N<m)=false/\decide ((N:Int)<m)=false):=by
     by_cases H:N<m
     ·refine .inl ⟨H,?_⟩;cases M with
      | true=>rfl
      | false=>exact absurd ⟨H,rfl⟩ hgt
     ·exact .inr ⟨oI,oI⟩
    have aL:Hid (∀(I:World) (ns:List Int) (v:Value),numsL rest=some ns->Below wc.heap.size wc I->I.ownsRow wc.heap.size 3 1 v ns.length (Dn ns)->∀Z,Below w.heap.size w Z->(∀x,x≠b+1->Z.heap[x]? = (I.setCell ⟨b+1+1,2,none⟩ v).heap[x]?)->GR w L N M ss (.returned (.tuple #[.agg #[encStr k,lv,v],.bool true])) Z):=λI ns v â Ϛ O Z G he=>by
     have A:=D.out;have Ú:=aC A.b2;have á:∀x,x≠b+1->x≠b+1+1->Z.heap[x]? = I.heap[x]?:=λx H h2=>(he x H).trans (Below.heap_setCell _ _ _ _ h2)
     refine⟨.inr ⟨k,ns,lv,v,by rw[A.rd,kS.out,â];rfl,rfl,gD (bC O λg hg=>?_) A.aI.size,?_⟩,G⟩
     ·have:=(aH O hg).1;exact á g fM fM
     ·rcases A.lab with⟨H,h2,h3,h4⟩|h
      ·refine .inl ⟨H,h2,bC (aX h3 Ϛ) λg hg=>?_⟩;have:=h4 g hg;exact á g fM fM
      ·exact .inr h
    have HB2:Hid (∃u:ByteArray,encStr k = .string u/\((∃q1 q2 q3,lv = .slice q1 q2 q3):Prop)):=by
     refine⟨_,rfl,?_⟩;rcases D.out.lab with⟨_,_,h3,_⟩|⟨_,h⟩
     ·obtain⟨xa,xc,h,_,_⟩:=zX h3;exact⟨_,_,_,h⟩
     ·exact⟨_,_,_,h⟩
    rcases hcase with⟨H,rfl⟩|⟨H,h2⟩
    ·have d2:decide ((N:Int)<m)=true:=oI;have d2':(N:Int)<m:=fM;go_wp2_with fail;refine Calls.mono yD.out ?_;rintro e I ⟨hrn,Ϛ⟩;have F:=(Ϛ.block _ (aC D.out.b1)).trans D.out.b1;have K:=(Ϛ.block _ (aC D.out.b2)).trans D.out.b2;have zh:=ć (And.intro F (D.out.aI.trans (Ϛ.mono D.out.aI.size)));have Y:=ak F 0;have y1:=ak F 1;have y2:=ak F 2;have f0:=aA F 0;have f1:=aA F 1;have f2:=aA F 2;simp at Y y1 y2;rcases hrn with⟨Ó,rfl⟩|⟨ns,v,Ó,rfl,O⟩
     ·have R:=ć (sJ.out (by rw[kS.out,Ó];rfl));go_wp2;exact mX.out I _ _ _ _ _ _ false zh.out.1 zh.out.2 (λZ G _=>R.out Z G) _ rfl rfl rfl
     ·have HF:=ć (aL.out I ns v Ó Ϛ O);obtain⟨va,vc,rfl⟩:=bB O;obtain⟨u,hu,q1,q2,q3,rfl⟩:=HB2.out;rw[hu] at K HF;have z0:=ak K 0;have z1:=ak K 1;have z2:=ak K 2;have g2:=aA K 2;simp at z0 z1 z2;have hE:Hid ((I.setCell ⟨b+1+1,2,none⟩ (.slice va ns.length vc)).heap[b+1]? = some (.cells #[.string ⟨#[]⟩,.slice none 0 0,.slice none 0 0] 88 (0,0))/\Below w.heap.size w (I.setCell ⟨b+1+1,2,none⟩ (.slice va ns.length vc))):=⟨(Below.heap_setCell _ _ _ _ rQ).trans F,zh.out.2.setCell (p:=⟨b+1+1,2,none⟩) (by have:=VO.out;show _<=b+1+1;omega) _⟩;go_wp2;exact mX.out _ _ _ _ _ _ _ true hE.out.1 hE.out.2 HF.out _ rfl rfl rfl
    ·go_wp2_with fail;refine Calls.mono yD.out ?_;rintro e I ⟨hrn,Ϛ⟩;have F:=(Ϛ.block _ (aC D.out.b1)).trans D.out.b1;have K:=(Ϛ.block _ (aC D.out.b2)).trans D.out.b2;have zh:=ć (And.intro F (D.out.aI.trans (Ϛ.mono D.out.aI.size)));have Y:=ak F 0;have y1:=ak F 1;have y2:=ak F 2;have f0:=aA F 0;have f1:=aA F 1;have f2:=aA F 2;simp at Y y1 y2;rcases hrn with⟨Ó,rfl⟩|⟨ns,v,Ó,rfl,O⟩
     ·have R:=ć (sJ.out (by rw[kS.out,Ó];rfl));go_wp2;exact mX.out I _ _ _ _ _ _ false zh.out.1 zh.out.2 (λZ G _=>R.out Z G) _ rfl rfl rfl
     ·have HF:=ć (aL.out I ns v Ó Ϛ O);obtain⟨va,vc,rfl⟩:=bB O;obtain⟨u,hu,q1,q2,q3,rfl⟩:=HB2.out;rw[hu] at K HF;have z0:=ak K 0;have z1:=ak K 1;have z2:=ak K 2;have g2:=aA K 2;simp at z0 z1 z2;have hE:Hid ((I.setCell ⟨b+1+1,2,none⟩ (.slice va ns.length vc)).heap[b+1]? = some (.cells #[.string ⟨#[]⟩,.slice none 0 0,.slice none 0 0] 88 (0,0))/\Below w.heap.size w (I.setCell ⟨b+1+1,2,none⟩ (.slice va ns.length vc))):=⟨(Below.heap_setCell _ _ _ _ rQ).trans F,zh.out.2.setCell (p:=⟨b+1+1,2,none⟩) (by have:=VO.out;show _<=b+1+1;omega) _⟩;go_wp2;exact mX.out _ _ _ _ _ _ _ true hE.out.1 hE.out.2 HF.out _ rfl rfl rfl
