import Derived.Test.YtnjmhjdhfaboaaaGreatDoorStSelGroup
import Derived.Test.YtnjmhjdhfaboaaaGreatDoorSplLib
import Derived.Lib.Join
set_option maxRecDepth 1000000
set_option maxHeartbeats 4000000
open Nat (add_comm le_refl le_trans lt_of_lt_of_le not_lt_zero zero_le)
open List
open Go.Proofs.Tryz
namespace Go.Proofs.YtnjmhjdhfaboaaaGreatDoor
open Go.RowKit Go.Maps aV aD
theorem ü{p:Prop}(h:p):Go.RowKit.Hid p:=h
structure oH(B:Nat)(ea:Nat->Addr)(T:Nat->List UInt8)(w:World):Prop where
 z:X0 B ea w
 tx:∀m,m<11->w.cell? (ea m)=some (.string (txt (T m)))
 lt:∀m,m<11->(ea m).block<B
 mx:∃m:Int,w.cell? ⟨13,0,none⟩=some (.int .i64 m)
 lm:13<B
theorem oH.below{B:Nat}{ea:Nat->Addr}{T:Nat->List UInt8}{w w':World}(E:oH B ea T w){A:Nat}(h:Below A w w')(q:B<=A):oH B ea T w':=⟨E.z.below h q,λm o=>(h.cell (lt_of_lt_of_le (E.lt m o) q)).trans (E.tx m o),E.lt,E.mx.imp λ_ o=>(h.cell (p:=⟨13,0,none⟩) (lt_of_lt_of_le E.lm q)).trans o,E.lm⟩
theorem Tryz.methES(v:Value)(w:World):(Go.method 537 397 v "Error").run prog w = .ok (351,v) w:=lG
theorem Tryz.methFE(v:Value)(w:World):(Go.method 537 72 v "Error").run prog w = .ok (319,v) w:=lG
theorem Jl(w:World)(a:Addr)(s:ByteArray)(h:w.cell? a=some (.string s)):Calls prog 351 #[.pointer (some a)] w λe w'=>e = .returned (.string s)/\w'=w:=by
 go_enter func351,ntmps351;go_wp2;go_ret;exact⟨rfl,rfl⟩
theorem Sk(w:World)(o:Nat)(a:Addr)(s:ByteArray)(z:w.cell? ⟨o,1,none⟩=some (.iface 397 (.pointer (some a))))(h:w.cell? a=some (.string s)):Calls prog 319 #[.pointer (some ⟨o,0,none⟩)] w λe w'=>e = .returned (.string s)/\w'=w:=by
 have q:=ü (Jl w a s h);have A:=Tryz.methES;go_enter func319,ntmps319;go_wp2_with fail;refine Calls.mono q.out ?_;rintro e w1 ⟨rfl,rfl⟩;go_wp2;go_ret;exact⟨rfl,rfl⟩
open aR bK dH aU gB
def J6(T:Nat->List UInt8)(C:Int):List UInt8:=T (C.toNat-1)
def BQ:List UInt8:=[111,107]
def M0:List UInt8:=[106,111,105,110,101,100]
def LW:List UInt8:=[110,111,116,104,105,110,103]
def qO(k:List UInt8):Option Nat:=if k = [99,104,117,110,107] then some 8 else if k = [98,108,111,99,107,115] then some 7 else if k = [115,117,109] then some 6 else if k = [103,101,116] then some 5 else if k = [98,111,111,116] then some 4 else if k = [99,117,116] then some 3 else if k = [99,111,109,112,97,99,116] then some 2 else if k = [102,108,117,115,104] then some 1 else if k = [97,100,100] then some 0 else none
theorem J7{k:List UInt8}{c:Nat}(h:qO k=some c):c<9:=by
 unfold qO at h;repeat' (split at h;· injection h with h;omega)
 cases h
def GN(c:Nat):Bool:=c==0||c==5||c==6
def M4(c:Nat):Nat:=if c=0\/c=5\/c=6 then 2 else if c=1\/c=3\/c=8 then 1 else 0
def ads(c:Nat):Bool:=c==8
def pI(l:List UInt8):Option Int:=match Lib.atoiAll l with
 | .ok v=>if l.length<=7/\0<=v/\Lib.itoa v=l then some v else none
 | _=>none
theorem ajC{l:List UInt8}{v:Int}(h:pI l=some v):0<=v/\v<=9223372036854775807:=by
 unfold pI at h;split at h
 ·rename_i x q;split at h
  ·rename_i o;injection h with h;subst h;exact⟨o.2.1,(Lib.atoiAll_bounds q).2⟩
  ·cases h
 ·cases h
def numsL:List (List UInt8)->Option (List Int)
 | []=>some []
 | x::l=>match pI x with
  | none=>none
  | some v=>(numsL l).map λr=>v::r
theorem Sl:∀ {l:List (List UInt8)} {ns:List Int},numsL l=some ns->ns.length=l.length/\∀v,v∈ns->0<=v/\v<=9223372036854775807
 | [],ns,h=>by
  injection h with h;subst h;exact⟨rfl,λ_ h=>nomatch h⟩
 | x::l,ns,h=>by
  rw[numsL] at h;split at h
  ·cases h
  ·rename_i v D;cases o:numsL l with
   | none=>rw[o] at h;cases h
   | some r=>
    rw[o] at h;injection h with h;subst h;obtain⟨z,A⟩:=Sl o;refine⟨by simp[z],λy q=>?_⟩;rcases mem_cons.1 q with rfl|q
    ·exact ajC D
    ·exact A y q
def Dl(N:Nat)(M:Bool)(k:List UInt8)(l:List (List UInt8)):Option (List UInt8×List Int):=if l.length<N\/(N<l.length/\M=false) then none else (numsL l).map λns=>(k,ns)
noncomputable def LX(L:Bool)(N:Nat)(M:Bool)(ss:List (List UInt8)):Option (List UInt8×List Int):=
 if L=true then (match ss with
  | []=>none
  | k::r=>if bH k=0 then Dl N M k r else none)
 else Dl N M [] ss
noncomputable def LY(c:Nat)(l:List (List UInt8)):Option (List UInt8×List Int):=LX (GN c) (M4 c) (ads c) l
theorem aaT{N:Nat}{M:Bool}{q:List UInt8}{l:List (List UInt8)}{k:List UInt8}{ns:List Int}(h:Dl N M q l=some (k,ns)):k=q/\N<=ns.length/\(∀v,v∈ns->0<=v/\v<=9223372036854775807)/\ns.length<=l.length:=by
 unfold Dl at h;split at h
 ·cases h
 ·cases o:numsL l with
  | none=>rw[o] at h;cases h
  | some m=>
   rw[o] at h;injection h with h;injection h with h1 h2;subst h1 h2;obtain⟨A,z⟩:=Sl o;exact⟨rfl,fO,z,fO⟩
theorem aaU{c:Nat}{l:List (List UInt8)}{k:List UInt8}{ns:List Int}(h:LY c l=some (k,ns)):M4 c<=ns.length/\(∀v,v∈ns->0<=v/\v<=9223372036854775807)/\(GN c=true->bH k=0)/\ns.length<=l.length/\(GN c≠true->k = []):=by
 unfold LY LX at h;split at h
 ·rename_i hL;split at h
  ·cases h
  ·split at h
   ·rename_i D;obtain⟨o,q,z,A⟩:=aaT h;exact⟨q,z,λ_=>o ▸ D,rD,λh=>absurd hL h⟩
   ·cases h
 ·rename_i hL;obtain⟨o,q,z,A⟩:=aaT h;exact⟨q,z,λh=>absurd h hL,A,λ_=>o⟩
def l9(r:Rw):List UInt8:=r.1++r.2.flatMap λp=>32::(Lib.itoa p.1++58::Lib.decDigits p.2)
def J8(a:Sm):List UInt8:=Lib.itoa (a.c:Int) ++ [a.l,a.m,a.t,a.s].flatMap λv=>32::Lib.decDigits v
def oQ(sep:List UInt8)(l:List (List UInt8)):List UInt8:=if l = [] then LW else Lib.join l sep
def uM(b:Bk):List UInt8:=Lib.itoa b.1++43::Lib.itoa b.2.1
def jE(ns:List Int):List (Int×Nat):=(List.range ns.length).map λi=>(ns.getD i 0,i)
def fT(k:List UInt8):List (List UInt8×List UInt8):=(scan k [] [] [] false).getD []
def KQ:Nat->Nat:=λ_=>61
noncomputable def yV(s:PS)(k:List UInt8)(x y:Int):List Rw:=A9 s.S s.Bs KQ (nameAt (fT k)) (cK (fT k)) (fT k).length x y
noncomputable def zi(k:List UInt8):Int:=mC KQ (nameAt (fT k)) (fT k).length
def aos(Bs:List Bk):Prop:=∃(q:Nat) (hq:q+1<Bs.length),vF (Bs[q]'fO) Bs[q+1]=0
noncomputable def lC(T:Nat->List UInt8)(C:Int)(a:List UInt8):List UInt8:=if C=0 then a else J6 T C
open Classical in
noncomputable def tF(T:Nat->List UInt8)(s:PS)(c:Nat)(k:List UInt8)(ns:List Int)(a:List UInt8)(s':PS):Prop:=
 match c with
 | 0=>a=lC T (wF s.S s.d s.Bs k (ns.getD 0 0) (ns.getD 1 0).toNat) BQ/\s'=⟨AJ s.S s.d s.Bs k (ns.getD 0 0) (ns.getD 1 0).toNat,Df s.S s.d s.Bs k (ns.getD 0 0) (ns.getD 1 0).toNat,s.Bs⟩
 | 1=>if ns.getD 0 0<=1099511627776 then a=lC T (yI 50 (ns.getD 0 0) s.S s.d s.Bs) (Lib.itoa (AY 50 (ns.getD 0 0) s.S s.d s.Bs))/\s'=⟨wX 50 (ns.getD 0 0) s.S s.Bs,OO 50 (ns.getD 0 0) s.S s.d s.Bs,AX 50 (ns.getD 0 0) s.S s.Bs 6⟩ else a=J6 T 2/\s'=s
 | 2=>a=(if aos s.Bs then M0 else LW)/\s'=⟨s.S,s.d,ny s.Bs⟩
 | 3=>a=lC T (if s.d.off=true then 10 else 0) BQ/\s'=⟨s.S,if s.d.off=true then s.d else ⟨s.d.L,false,true,(ns.getD 0 0).toNat⟩,s.Bs⟩
 | 4=>a=BQ/\∃L,Reads jK s.d.L L/\s'=⟨iI L,⟨recs L,false,false,0⟩,[]⟩
 | 5=>a=lC T (zi k) (oQ [59,32] ((yV s k (ns.getD 0 0) (ns.getD 1 0)).map l9))/\s'=s
 | 6=>a=lC T (zi k) (J8 (ofM (flat (yV s k (ns.getD 0 0) (ns.getD 1 0)))))/\s'=s
 | 7=>a=oQ [32] (s.Bs.map uM)/\s'=s
 | _=>a=lC T (gL (jE ns)) (nZ (dU (jE ns)) (dU (jE ns)).length)/\s'=s
theorem Ui{T:Nat->List UInt8}{s:PS}{c:Nat}{k:List UInt8}{ns:List Int}{a b:List UInt8}{s' q:PS}(h:tF T s c k ns a s')(g:tF T s c k ns b q):a=b/\s'=q:=by
 unfold tF at h g;split at h;case h_5=>
  obtain⟨D,L,hL,F⟩:=h;obtain⟨z,M,A,gs⟩:=g;obtain rfl:=wu LP L M _ hL A;exact⟨D.trans z.symm,F.trans gs.symm⟩
 case h_2=>
  split at h
  ·rename_i o;rw[if_pos o] at g;exact⟨h.1.trans g.1.symm,h.2.trans g.2.symm⟩
  ·rename_i o;rw[if_neg o] at g;exact⟨h.1.trans g.1.symm,h.2.trans g.2.symm⟩
 case h_9=>
  split at g;all_goals first
   | exact absurd rfl (by assumption)
   | exact⟨h.1.trans g.1.symm,h.2.trans g.2.symm⟩
 all_goals exact⟨h.1.trans g.1.symm,h.2.trans g.2.symm⟩
noncomputable def ji(T:Nat->List UInt8)(s:PS)(l a:List UInt8)(s':PS):Prop:=
 match qO ((qN 32 [] l).headD []) with
 | none=>a=T 0/\s'=s
 | some c=>match LY c (qN 32 [] l).tail with
  | none=>a=T 0/\s'=s
  | some (k,ns)=>tF T s c k ns a s'
theorem Sn{T:Nat->List UInt8}{s:PS}{l a b:List UInt8}{s' z:PS}(h:ji T s l a s')(g:ji T s l b z):a=b/\s'=z:=by
 unfold ji at h g;split at h
 ·rename_i o;rw[o] at g;exact⟨h.1.trans g.1.symm,h.2.trans g.2.symm⟩
 ·rename_i c o;rw[o] at g;dsimp only at g;split at h
  ·rename_i q;rw[q] at g;exact⟨h.1.trans g.1.symm,h.2.trans g.2.symm⟩
  ·rename_i k ns q;rw[q] at g;exact Ui h g
def mW(T:Nat->List UInt8):PS->List (List UInt8)->List (List UInt8)->PS->Prop
 | s,[],ys,s'=>ys = []/\s'=s
 | s,l::ls,ys,s'=>∃a t r,ji T s l a t/\ys=a::r/\mW T t ls r s'
theorem mW.snoc{T:Nat->List UInt8}:∀ {q:List (List UInt8)} {s t u:PS} {o:List (List UInt8)} {l a:List UInt8},mW T s q o t->ji T t l a u->mW T s (q ++ [l]) (o ++ [a]) u
 | [],s,t,u,o,l,a,h,g=>by
  obtain⟨rfl,rfl⟩:=h;exact⟨a,u,[],g,rfl,rfl,rfl⟩
 | x::q,s,t,u,o,l,a,h,g=>by
  obtain⟨b,D,r,z,rfl,A⟩:=h;exact⟨b,D,r ++ [a],z,rfl,A.snoc g⟩
theorem mW.unique{T:Nat->List UInt8}:∀ {A:List (List UInt8)} {s t u:PS} {o z:List (List UInt8)},mW T s A o t->mW T s A z u->o=z/\t=u
 | [],s,t,u,o,z,h,g=>by
  obtain⟨rfl,rfl⟩:=h;obtain⟨rfl,rfl⟩:=g;exact⟨rfl,rfl⟩
 | x::A,s,t,u,o,z,h,g=>by
  obtain⟨a,I,r,G,rfl,H⟩:=h;obtain⟨b,J,q,D,rfl,F⟩:=g;obtain⟨rfl,rfl⟩:=Sn G D;obtain⟨rfl,rfl⟩:=H.unique F;exact⟨rfl,rfl⟩
theorem mW.len{T:Nat->List UInt8}:∀ {q:List (List UInt8)} {s t:PS} {o:List (List UInt8)},mW T s q o t->o.length=q.length
 | [],s,t,o,h=>by rw[h.1]
 | x::q,s,t,o,h=>by
  obtain⟨a,D,r,A,rfl,z⟩:=h;simp[z.len]
theorem iL.cmd{T:Nat->List UInt8}{s s':PS}{c:Nat}{D:List UInt8}{ns:List Int}{a:List UInt8}{k:Nat}(h:iL s k)(LZ:c<9)(á:∀v,v∈ns->0<=v/\v<=9223372036854775807)(Ģ:D.length<=200)(A:tF T s c D ns a s'):iL s' (k+1):=by
 obtain⟨L,hL,hLk⟩:=h.log;have ξ:=h.bs;have Ĕ:=h.sl;have Ϭ:=h.cs;have Y:=Ģ;unfold tF at A;split at A
 ·obtain⟨_,rfl⟩:=A;have V:(ns.getD 1 0).toNat<18446744073709551616:=by
   rw[getD_eq_getElem?_getD];by_cases z:1<ns.length
   ·rw[List.getElem?_eq_getElem z];have:=á _ (getElem_mem z);simp only[Option.getD_some];omega
   ·rw[List.getElem?_eq_none fO];decide
  obtain⟨t,ht⟩:=bE (ns.getD 0 0);obtain⟨u,Z⟩:=bE ((ns.getD 1 0).toNat);rw[<-ht,<-Z];rw[<-Z] at V;have H:∃K,lK (Df s.S s.d s.Bs D t u) K/\K.length<=k+1:=by
   unfold Df;split
   ·exact⟨L,hL,fO⟩
   ·obtain⟨a1,a2⟩:=hL.app D Y t u V;by_cases q:ko s.d D t u=0
    ·exact⟨_,a1 q,by rw[length_append];simp;omega⟩
    ·exact⟨L,a2 q,fO⟩
  by_cases hz:wF s.S s.d s.Bs D t u=0
  ·obtain⟨hr,e⟩:=af9 hz;have h0:=acW hr;have g1:=Er s.S D (t,u);have g2:=zl s.S D (t,u);rw[e];refine⟨h.head.add (Vd hr) fO V,λl U=>?_,h.made,h.name,h.bs,by show (fU s.S D (t,u)).length<=k+1;omega,by show bV (fU s.S D (t,u))<=k+1;omega,H⟩;rcases (jO h.head.well.sorted).1 U with⟨hl',_⟩|⟨m,_,_,rfl⟩|⟨_,rfl⟩
   ·exact h.key l hl'
   ·exact Y
   ·exact Y
  ·rw[ajA hz];exact⟨h.head,h.key,h.made,h.name,h.bs,by show s.S.length<=k+1;omega,by show bV s.S<=k+1;omega,H⟩
 ·split at A
  ·obtain⟨_,rfl⟩:=A;obtain⟨now,JL⟩:=bE (ns.getD 0 0);rw[<-JL];have O:=ado (now:=now) h.head (show (0:Int)<50 by decide) h.key;have q:ku (wX 50 now s.S s.Bs):=h.head.cut _;have J:∀l,l∈wX 50 now s.S s.Bs->l.key.length<=200:=λl U=>by
    obtain⟨m,O,rfl⟩:=mem_map.1 U;exact h.key m O
   have Ũ:bV (wX 50 now s.S s.Bs)<=bV s.S:=Et _ _;obtain⟨Q,e2⟩:=agb q J 1099511627776;obtain⟨K,W,q2⟩:=hL.anew _ Q;refine⟨q,J,λb o=>?_,λb o=>?_,?_,?_,by show bV (wX 50 now s.S s.Bs)<=k+1;omega,K,W,fO⟩
   ·rcases mem_append.1 (mem_of_mem_drop o) with o|o
    ·exact h.made b o
    ·exact (O b o).1
   ·rcases mem_append.1 (mem_of_mem_drop o) with o|o
    ·exact h.name b o
    ·exact (O b o).2.2
   ·show (AX 50 now s.S s.Bs 6).length<=6;unfold AX;rw[length_drop];omega
   ·show (wX 50 now s.S s.Bs).length<=k+1;unfold wX;rw[R3];omega
  ·obtain⟨_,rfl⟩:=A;exact h.mono (Nat.le_succ _)
 ·obtain⟨_,rfl⟩:=A;have F:∀Bs:List Bk,(∀b,b∈Bs->qg b.1 b.2.1 b.2.2)->(∀b,b∈Bs->∀r,r∈b.2.2->r.1.length<=200)->(∀b,b∈ny Bs->qg b.1 b.2.1 b.2.2/\∀r,r∈b.2.2->r.1.length<=200)/\(ny Bs).length<=Bs.length:=λBs=>by
   induction Bs with
   | nil=>intro _ _;exact⟨by rw[ny];simp;simp,by rw[ny];simp;simp⟩
   | cons a l ih=>
    intro z G;cases l with
    | nil=>
     have e:ny [a] = [a]:=by rw[ny];simp
     rw[e];exact⟨λb o=>⟨z b o,G b o⟩,le_refl _⟩
    | cons b l=>
     rw[ny];obtain⟨i1,i2⟩:=ih (λc q=>z c (mem_cons_of_mem _ q)) λc q=>G c (mem_cons_of_mem _ q)
     split
     ·rename_i hj;have R:=z a vI;have o:=z b vI;obtain⟨Q,e2,e3⟩:=af7 R o hj;have I:qg (a.1+a.2.1) b.2.1 b.2.2:=by rw[Q];exact o
      rw[e2];refine⟨λc q=>?_,vI⟩;rcases mem_cons.1 q with rfl|q
      ·exact⟨afZ R I e3,af0 R.well I.well (G a vI) (G b vI)⟩
      ·exact⟨z c (mem_cons_of_mem _ (mem_cons_of_mem _ q)),G c (mem_cons_of_mem _ (mem_cons_of_mem _ q))⟩
     ·refine⟨λc q=>?_,by simp only[length_cons] at i2 ⊢;omega⟩;rcases mem_cons.1 q with rfl|q
      ·exact⟨z _ (mem_cons_self ..),G _ (mem_cons_self ..)⟩
      ·exact i1 c q
  obtain⟨c1,c2⟩:=F s.Bs h.made h.name;exact⟨h.head,h.key,λb o=>(c1 b o).1,λb o=>(c1 b o).2,le_trans c2 ξ,by show s.S.length<=k+1;omega,by show bV s.S<=k+1;omega,L,hL,fO⟩
 ·obtain⟨_,rfl⟩:=A;refine⟨h.head,h.key,h.made,h.name,h.bs,by show s.S.length<=k+1;omega,by show bV s.S<=k+1;omega,L,?_,fO⟩;show lK (if s.d.off=true then s.d else _) L;split
  ·exact hL
  ·rename_i ho;obtain⟨x,e,hx⟩:=hL.form;rcases hx with⟨_,rfl⟩|⟨z,_⟩
   ·exact⟨hL.ok,hL.nm,hL.fit,[],e,.inl ⟨rfl,rfl⟩⟩
   ·exact absurd z ho
 ·obtain⟨_,M,hM,rfl⟩:=A;obtain rfl:=hL.uniq hM;obtain⟨W,q2,q3,q4⟩:=adp M λe he=>⟨hL.ok e he,hL.nm e he⟩
  exact⟨W,q2,(λ_ h=>nomatch h),(λ_ h=>nomatch h),zero_le _,by show (iI M).length<=k+1;omega,by show bV (iI M)<=k+1;omega,M,hL.aop,fO⟩
 all_goals
  obtain⟨_,rfl⟩:=A;exact h.mono (Nat.le_succ _)
theorem aaV(v:Int):Lib.itoa v ≠ []:=by
 unfold Lib.itoa;split
 ·simp
 ·intro e;have o:=Lib.decDigits_length v.toNat
  have q:=Lib.nDigits_pos v.toNat
  rw[e] at o;simp at o;omega
theorem zK{T:Nat->List UInt8}(o:∀m,T m ≠ []){C:Int}{a:List UInt8}(h:a ≠ []):lC T C a ≠ []:=by
 unfold lC J6;split
 ·exact h
 ·exact o _
theorem Vs{sep:List UInt8}{l:List (List UInt8)}(h:∀x,x∈l->x ≠ []):oQ sep l ≠ []:=by
 cases l with
 | nil=>simp[oQ,LW]
 | cons x l=>
  have:=h x (mem_cons_self ..);rw[oQ,if_neg vI,Lib.join_cons];simp[this]
theorem aaW{T:Nat->List UInt8}(o:∀m,T m ≠ []){s s':PS}{c:Nat}{k:List UInt8}{ns:List Int}{a:List UInt8}(h:tF T s c k ns a s'):a ≠ []:=by
 unfold tF at h;split at h
 ·rw[h.1];exact zK o nQ
 ·split at h
  ·rw[h.1];exact zK o (aaV _)
  ·rw[h.1];exact o _
 ·rw[h.1];split<;>decide
 ·rw[h.1];exact zK o nQ
 ·rw[h.1];decide
 ·rw[h.1];refine zK o (Vs λx z=>?_);obtain⟨r,q,rfl⟩:=mem_map.1 z;unfold yV A9 kZ at q;obtain⟨n,_,q⟩:=mem_flatMap.1 q;split at q
  ·rename_i D;rw[mem_singleton.1 q];unfold l9;obtain⟨p,l,e⟩:=exists_cons_of_ne_nil D.2;rw[e];simp
  ·cases q
 ·rw[h.1];refine zK o ?_;unfold J8;simp
 ·rw[h.1];refine Vs λx z=>?_
  obtain⟨r,_,rfl⟩:=mem_map.1 z;unfold uM;simp
 ·rw[h.1];refine zK o λe=>?_
  have A:=BN (dU (jE ns)) _ (le_refl _);rw[e] at A;have F:(dU (jE ns)).length=(aj.pack (dP (fI (jE ns)) (rU (jE ns)) (jE ns).length)).length+4:=by rw[dU,dY,aj.gX,length_append,qm]
  simp only[length_nil] at A;omega
theorem X4{T:Nat->List UInt8}(o:∀m,T m ≠ []){s s':PS}{l a:List UInt8}(h:ji T s l a s'):a ≠ []:=by
 unfold ji at h;split at h
 ·rw[h.1];exact o _
 ·split at h
  ·rw[h.1];exact o _
  ·exact aaW o h
theorem iL.line{T:Nat->List UInt8}{s s':PS}{l a:List UInt8}{k:Nat}(h:iL s k)(o:ji T s l a s'):iL s' (k+1):=by
 unfold ji at o;split at o
 ·rw[o.2];exact h.mono (Nat.le_succ _)
 ·rename_i c z;split at o
  ·rw[o.2];exact h.mono (Nat.le_succ _)
  ·rename_i H ns G;obtain⟨_,q,D,_,F⟩:=aaU G;by_cases A:GN c=true
   ·exact h.cmd (J7 z) q (le_trans (yB _ (D A)).2 nQ) o
   ·exact h.cmd (J7 z) q (by rw[F A];decide) o
def aaX(l:List UInt8)(e:Ending):Prop:=(∃v:Int,pI l=some v/\e = .returned (.tuple #[.int .i64 v,.bool true]))\/(pI l=none/\e = .returned (.tuple #[.int .i64 0,.bool false]))
theorem Sq{B:Nat}(s:ByteArray)(hs:s.size<=1000000)(w:World)(J:wB w)(K:Lib.TabBelow prog B w "internal/strconv.uint64pow10" .u64 Lib.pow10Tab)(hB:B<=w.heap.size):
  Calls prog 131 #[.string s] w λe w'=>aaX s.data.toList e/\Below w.heap.size w w':=by
 have U:=(Gd s).symm;by_cases W:7<s.size
 ·have d7:decide ((7:Int)<s.size)=true:=rD;have d7':(7:Int)<s.size:=fO;have A:Hid (pI s.data.toList=none):=by
   show _=_;unfold pI;split
   ·exact if_neg λh=>fO
   ·rfl
  clear J K U;go_enter func131,ntmps131;go_wp2;go_ret2;exact⟨.inr ⟨A.out,rfl⟩,Below.refl _ _⟩
 have d7:decide ((7:Int)<s.size)=false:=rD;have HA:=ü (Q9 s hs w J);have HI:Hid (∀(v:Int) z,-9223372036854775808<=v->v<=9223372036854775807->Below w.heap.size w z->Calls prog 43 #[.int .i64 v] z λe w'=>e = .returned (.string (txt (Lib.itoa v)))/\Below z.heap.size z w'):=λv z h0 h1 hz=>xG v h0 h1 z (K z (hz.mono hB))
 have jy:=ü U;have H7:=(show Hid (¬ 7<s.size) from W);clear J K U W;go_enter func131,ntmps131;go_wp2_with fail;refine Calls.mono HA.out ?_;rintro e w1 ⟨⟨v,R,rfl⟩|⟨Â,x,tp,p,rfl⟩,H⟩
 ·have o:=ü H;obtain⟨Z,v1⟩:=Lib.atoiAll_bounds R;have I:=ü R;by_cases Y:v<0
  ·have dn:decide (v<0)=true:=decide_eq_true Y;have A:Hid (pI s.data.toList=none):=by
    show _=_;unfold pI;rw[I.out];exact if_neg λh=>fO
   go_wp2;go_ret2;exact⟨.inr ⟨A.out,rfl⟩,o.out⟩
  have dn:=decide_eq_false Y;have F:=ü (HI.out v w1 Z v1 H);obtain⟨q,O⟩:=bE (txt (Lib.itoa v):ByteArray);rw[<-O] at F;have V:=ü O;have iH:=(show Hid (0<=v) from by show _<=_;omega);clear R H O Z v1;go_wp2_with fail;refine Calls.mono F.out ?_;rintro e w2 ⟨rfl,ϒ⟩;have D:=ü (o.out.trans (ϒ.mono o.out.size));by_cases G:q=s
  ·have Q:(q.toList==s.toList)=true:=by rw[G];simp
   have A:Hid (pI s.data.toList=some v):=by
    show _=_;unfold pI;rw[I.out];refine if_pos ⟨by have:=jy.out;have:=H7.out;omega,iH.out,?_⟩;rw[<-G,V.out];rfl
   go_wp2;go_ret2;exact⟨.inl ⟨v,A.out,rfl⟩,D.out⟩
  ·have Q:(q.toList==s.toList)=false:=by
    rw[beq_eq_false_iff_ne];intro h;rw[ByteArray.toList_eq,ByteArray.toList_eq] at h;exact G (ByteArray.ext (Array.ext' h))
   have A:Hid (pI s.data.toList=none):=by
    show _=_;unfold pI;rw[I.out];refine if_neg λh=>G ?_
    rw[V.out,h.2.2];rfl
   go_wp2;go_ret2;exact⟨.inr ⟨A.out,rfl⟩,D.out⟩
 ·have o:=ü H;have A:Hid (pI s.data.toList=none):=by
   show _=_;unfold pI;split
   ·rename_i v h;exact absurd h (Â v)
   ·rfl
  go_wp2;go_ret2;exact⟨.inr ⟨A.out,rfl⟩,o.out⟩
theorem Eu:∀(l:List (List UInt8)) (x:List UInt8),numsL (l ++ [x])=match numsL l with
  | none=>none
  | some r=>(pI x).map λv=>r ++ [v]
 | [],x=>by
  show (match pI x with
   | none=>none
   | some v=>(numsL []).map λr=>v::r)=(pI x).map λv=>[] ++ [v]
  cases pI x with
  | none=>rfl
  | some v=>rfl
 | y::l,x=>by
  rw[cons_append,numsL,numsL,Eu l x];cases pI y with
  | none=>rfl
  | some v=>
   cases numsL l with
   | none=>rfl
   | some r=>
    cases pI x with
    | none=>rfl
    | some u=>rfl
theorem L6:∀ {l m:List (List UInt8)},numsL l=none->numsL (l++m)=none
 | [],_,h=>nomatch h
 | y::l,m,h=>by
  rw[numsL] at h;rw[cons_append,numsL];cases q:pI y with
  | none=>rfl
  | some v=>
   rw[q] at h;cases o:numsL l with
   | none=>dsimp only;rw[L6 o];rfl
   | some r=>rw[o] at h;cases h
def Dm(ys:List Int):List Value:=ys.map λy=>.int .i64 y
def aaY(w:World)(ss:List (List UInt8))(e:Ending)(w':World):Prop:=((numsL ss=none/\e = .returned (.tuple #[.slice none 0 0,.bool false]))\/∃ns v,numsL ss=some ns/\e = .returned (.tuple #[v,.bool true])/\w'.ownsRow w.heap.size 3 1 v ns.length (Dm ns))/\Below w.heap.size w w'
theorem Sv{B:Nat}(w:World)(hE:wB w)(hT:Lib.TabBelow prog B w "internal/strconv.uint64pow10" .u64 Lib.pow10Tab)(Z:B<=w.heap.size)(a:Option Addr)(c:Nat)(ss:List (List UInt8))(hS:uI w a ss)(D:∀x,x∈ss->x.length<=1000000)(hn:ss.length<=1000000):
  Calls prog 88 #[.slice a ss.length c] w λe w'=>aaY w ss e w':=by
 obtain⟨i0,hi,î,ç,ï⟩:=info_parts Tryz.infoIntR;have qK:=ü hi;have HN:Hid (∀z (k:Nat) (A:k<ss.length),Below w.heap.size w z->Calls prog 131 #[encStr ss[k]] z λe w'=>aaX ss[k] e/\Below z.heap.size z w'):=λz k A K=>by
  have:=Sq (B:=B) (txt ss[k]) (by rw[dB];exact D _ (getElem_mem A)) z (hE.below K hE.lt) (λz' h'=>hT z' (Below.trans (K.mono Z) h')) (le_trans Z K.size);have e:(txt ss[k]).data.toList=ss[k]:=by simp[txt]
  rw[e] at this;exact this
 obtain⟨n,ϛ⟩:=eD ss.length;rw[ϛ] at hn ⊢;have iH:=ü ϛ;have HS:Hid (uI w a ss):=hS;have H0:Hid (w.ownsRow w.heap.size 3 1 (.slice none 0 0) ([]:List Int).length (Dm [])):=⟨rfl,.inl ⟨rfl,rfl⟩⟩;go_enter func88,ntmps88;go_wp2_with fail;go_loopw [4,11] (λav R wr=>∃(j:Nat) (ns:List Int),j<=n/\R = .int .i64 (j:Int)/\numsL (ss.take j)=some ns/\ns.length=j/\wr.ownsRow w.heap.size 3 1 av j (Dm ns)/\Below w.heap.size w wr) (λ_ R _=>n-(intOf R).toNat);case atStart=>exact⟨0,[],zero_le _,by first|rfl|go_num,rfl,rfl,H0.out,Below.refl _ _⟩
 case round=>
  obtain⟨j,ns,hj,rfl,á,ô,V,F⟩:=hrel;have H:=ü (And.intro á ô);have mq:=ü F;by_cases O:j<n
  ·have U:j<ss.length:=by rw[iH.out];exact O
   obtain⟨g,o,rfl,hc⟩:=(HS.out.below F) j U;obtain⟨u,hu⟩:∃u:ByteArray,(encStr ss[j]) = .string u:=⟨_,rfl⟩;have Y:=ü (HN.out wr j U F);rw[hu] at hc Y;obtain⟨aa,ac,rfl⟩:∃z1 z2,u4 = .slice z1 j z2:=bA V;have G:=ü V;have j0:(0:Int)<=j:=fO;have j1:(j:Int)<n:=fO;go_wp2_with fail;refine Calls.mono Y.out ?_;rintro e q ⟨Â,Ϛ⟩;have ņ:=take_succ_eq_append_getElem U;have I:=mq.out.trans (Ϛ.mono mq.out.size);rcases Â with⟨v,hv,rfl⟩|⟨hv,rfl⟩
   ·have Q:numsL (ss.take (j+1))=some (ns ++ [v]):=by rw[ņ,Eu,H.out.1,hv];rfl
    have lJ:Hid ((q.alloc (.cells #[.int .i64 v] 3)).ownsRow w.heap.size 3 1 (.slice aa j ac) j (Dm ns)):=(aX G.out Ϛ).alloc _;have iV:Hid (∀i z,([.int .i64 v]:List Value)[i]? = some z->(q.alloc (.cells #[.int .i64 v] 3)).cell? ((⟨q.heap.size,0,none⟩:Addr).add i)=some z):=World.news_of_block (heap_alloc_new q _);have kH:Hid (∀z∈([.int .i64 v]:List Value),z.oneCell'=true):=by
     intro z D;simp at D;subst D;rfl
    have ĕ:=I.size;have W:=ü (And.intro Q I);go_wp2_with (at_builtin;refine wpList_append_lies _ rfl _ _ 35 rfl w.heap.size 3 i0 (.int .i64 0) 1 8 underlying35 qK.out î ç ï rfl nQ _ _ _ rfl lJ.out ⟨q.heap.size,0,none⟩ 1 1 [.int .i64 v] rfl rfl iV.out kH.out fO (by unfold maxLen;omega) fO rD _ rfl ?_);intro g7 dR w7 bR eu _ _;have jP:Hid (w7.ownsRow w.heap.size 3 1 (.slice (some ⟨g7,0,none⟩) (j+1) dR) (j+1) (Dm (ns ++ [v]))/\Below w.heap.size w w7):=⟨by unfold Dm at *;rw[map_append];exact bR,(W.out.2.alloc ĕ _).grown eu rD (λk A=>(lJ.out.lt k A).1)⟩;go_wp2;go_roundw;case rel=>exact⟨j+1,_,fO,by go_num,W.out.1,by rw[length_append,H.out.2];rfl,jP.out⟩
    case measure=>simp[intOf]<;>omega
   ·have wM:Hid (numsL ss=none):=by
     show _=_;rw[<-take_append_drop (j+1) ss];exact L6 (by rw[ņ,Eu,H.out.1,hv];rfl)
    have J:=ü I;go_wp2;go_ret2;exact⟨.inl ⟨wM.out,rfl⟩,J.out⟩
  ·obtain rfl:j=n:=fO;have ϣ:numsL ss=some ns:=by rw[<-á,<-iH.out,take_length]
   have sK:Hid (aaY w ss (.returned (.tuple #[u4,.bool true])) wr):=⟨.inr ⟨ns,u4,ϣ,rfl,by rw[ô];exact V⟩,F⟩;go_wp2;go_ret2;exact sK.out
def adt:Nat->Value
 | 0=>.agg #[.bool true,.int .i64 2,.bool false,.func (.func 22) #[] #[]]
 | 1=>.agg #[.bool false,.int .i64 1,.bool false,.func (.func 23) #[] #[]]
 | 2=>.agg #[.bool false,.int .i64 0,.bool false,.func (.func 24) #[] #[]]
 | 3=>.agg #[.bool false,.int .i64 1,.bool false,.func (.func 25) #[] #[]]
 | 4=>.agg #[.bool false,.int .i64 0,.bool false,.func (.func 26) #[] #[]]
 | 5=>.agg #[.bool true,.int .i64 2,.bool false,.func (.func 27) #[] #[]]
 | 6=>.agg #[.bool true,.int .i64 2,.bool false,.func (.func 28) #[] #[]]
 | 7=>.agg #[.bool false,.int .i64 0,.bool false,.func (.func 29) #[] #[]]
 | _=>.agg #[.bool false,.int .i64 1,.bool true,.func (.func 30) #[] #[]]
def look(k:List UInt8):List (List UInt8×Value)->Option Value
 | []=>none
 | e::r=>if k=e.1 then some e.2 else look k r
def MapAt(w:World)(mb n:Nat)(E:List (List UInt8×Value)):Prop:=∃D,w.ownsMap prog 9 fM mb n D/\(∀k,Maps.has D (.string k)=(look k E).isSome)/\∀k v,look k E=some v->∀z,D.atKey (.string k) z = .held v
theorem adu(s:ByteArray)(o:s.size<=1000000):keyOf prog 9 (.string s)=some (.string s.data.toList):=Go.WideMaps.keyOf_string_mk underlying9 (by unfold maxLen;omega)
theorem MapAt.put{w:World}{q n:Nat}{E:List (List UInt8×Value)}(h:MapAt w q n E)(Q:n<1000)(s:ByteArray)(R:s.size<=1000)(v:Value):
  ∃w',(Instr.mapUpdate 46 (.map (some q)) (.string s) v).run prog w = .ok () w'/\MapAt w' q (n+1) ((s.data.toList,v)::E)/\w.grownBy w' (some q):=by
 obtain⟨D,A,H,I⟩:=h;obtain⟨w',O,K,J⟩:=A.update qE underlying46 (show n<maxLen by unfold maxLen;omega) (adu s fO) (val:=v) (d:=.held v) (ps:=[]) rfl;have F:WideAt.IsKeyLit (.string s.data.toList):=qE.key (adu s fO);have G:∀k j:List UInt8,k≠j->(Lit.string k) ≠ .string j:=λk j e h=>by injection h with h;exact e h
 refine⟨w',O,⟨_,K,λk=>?_,λk u o z=>?_⟩,J⟩
 ·rw[look];by_cases e:k=s.data.toList
  ·rw[if_pos e,e,has_put_same A.isMap F];rfl
  ·rw[if_neg e,has_put_other (G _ _ e),H]
 ·rw[look] at o;by_cases e:k=s.data.toList
  ·rw[if_pos e] at o;injection o with o;subst o;rw[e];exact atKey_put_same A.isMap F _ _
  ·rw[if_neg e] at o;rw[atKey_put_other (G _ _ e),I k u o]
theorem MapAt.same{w w':World}{o n:Nat}{E:List (List UInt8×Value)}(h:MapAt w o n E)(A:w'.heap[o]? = w.heap[o]?):MapAt w' o n E:=by
 obtain⟨D,q,z⟩:=h;exact⟨D,jm q A,z⟩
theorem MapAt.lt{w:World}{o n:Nat}{E:List (List UInt8×Value)}(h:MapAt w o n E):o<w.heap.size:=by
 obtain⟨D,q,_⟩:=h;exact q.lt
abbrev adv:Value:=.agg #[.bool false,.int .i64 0,.bool false,.nilFunc]
theorem agd(w:World):(zeroValue 68).run prog w = .ok adv w:=lG
theorem MapAt.look{w:World}{G n:Nat}{E:List (List UInt8×Value)}(h:MapAt w G n E)(s:ByteArray)(K:s.size<=1000000):
  (look s.data.toList E=none/\∃v,(Instr.lookup 46 (.map (some G)) (.string s) true).run prog w = .ok (.tuple #[v,.bool false]) w/\v=adv)\/∃v,look s.data.toList E=some v/\(Instr.lookup 46 (.map (some G)) (.string s) true).run prog w = .ok (.tuple #[v,.bool true]) w:=by
 obtain⟨D,H,I,J⟩:=h;obtain⟨v,ps,A,o⟩:=H.look_ok qE underlying46 (agd w) (zd:=.held adv) (zp:=[]) rfl (adu s K);simp only[fM,Option.some.injEq,Prod.mk.injEq] at o;have q:=I s.data.toList;cases F:Go.Proofs.YtnjmhjdhfaboaaaGreatDoor.look s.data.toList E with
 | none=>
  rw[F] at q;have z:Maps.has D (.string s.data.toList)=false:=q;rw[atKey_of_not_has z] at o;rw[z] at A;have:=o.1;injection this with this;exact .inl ⟨rfl,v,A,this⟩
 | some u=>
  rw[F] at q;have z:Maps.has D (.string s.data.toList)=true:=q;rw[J _ u F] at o;rw[z] at A;have:=o.1;injection this with this;subst this;exact .inr ⟨v,rfl,A⟩
def Sw:List (List UInt8×Value):=[([99,104,117,110,107],.agg #[.bool false,.int .i64 1,.bool true,.func (.func 30) #[] #[]]),([98,108,111,99,107,115],.agg #[.bool false,.int .i64 0,.bool false,.func (.func 29) #[] #[]]),([115,117,109],.agg #[.bool true,.int .i64 2,.bool false,.func (.func 28) #[] #[]]),([103,101,116],.agg #[.bool true,.int .i64 2,.bool false,.func (.func 27) #[] #[]]),([98,111,111,116],.agg #[.bool false,.int .i64 0,.bool false,.func (.func 26) #[] #[]]),([99,117,116],.agg #[.bool false,.int .i64 1,.bool false,.func (.func 25) #[] #[]]),([99,111,109,112,97,99,116],.agg #[.bool false,.int .i64 0,.bool false,.func (.func 24) #[] #[]]),([102,108,117,115,104],.agg #[.bool false,.int .i64 1,.bool false,.func (.func 23) #[] #[]]),([97,100,100],.agg #[.bool true,.int .i64 2,.bool false,.func (.func 22) #[] #[]])]
theorem aaZ(k:List UInt8):look k Sw=(qO k).map adt:=by
 unfold qO;simp only[Sw,look];repeat' (split;· rfl)
 rfl
theorem M6(w:World):Calls prog 14 #[] w λe w'=>∃D,e = .returned (.map (some D))/\MapAt w' D 9 Sw/\Below w.heap.size w w'/\w.heap.size<=D:=by
 have h0:MapAt (w.alloc (.map #[] 0)) w.heap.size 0 []:=⟨_,World.ownsMap_made w prog 9 fM,λk=>rfl,λk v h=>nomatch h⟩;have J:Below w.heap.size w (w.alloc (.map #[] 0)):=(Below.refl _ _).alloc (le_refl _) _;have o:∀ {z I:World},Below w.heap.size w z->z.grownBy I (some w.heap.size)->Below w.heap.size w I:=λq A=>⟨A.os.trans q.os,A.tape.trans q.tape,A.output.trans q.output,le_trans q.size A.size,λx G=>(A.block x (lt_of_lt_of_le G q.size) (λe=>by injection e with e;omega)).trans (q.block x G)⟩
 obtain⟨w1,r1,h1,g1⟩:=h0.put nQ ⟨#[97,100,100]⟩ nQ (.agg #[.bool true,.int .i64 2,.bool false,.func (.func 22) #[] #[]]);have K:=o J g1;obtain⟨w2,r2,h2,g2⟩:=h1.put nQ ⟨#[102,108,117,115,104]⟩ nQ (.agg #[.bool false,.int .i64 1,.bool false,.func (.func 23) #[] #[]]);have O:=o K g2;obtain⟨w3,r3,h3,g3⟩:=h2.put nQ ⟨#[99,111,109,112,97,99,116]⟩ nQ (.agg #[.bool false,.int .i64 0,.bool false,.func (.func 24) #[] #[]]);have Q:=o O g3;obtain⟨w4,r4,h4,g4⟩:=h3.put nQ ⟨#[99,117,116]⟩ nQ (.agg #[.bool false,.int .i64 1,.bool false,.func (.func 25) #[] #[]]);have R:=o Q g4;obtain⟨w5,r5,h5,g5⟩:=h4.put nQ ⟨#[98,111,111,116]⟩ nQ (.agg #[.bool false,.int .i64 0,.bool false,.func (.func 26) #[] #[]]);have U:=o R g5;obtain⟨w6,r6,h6,g6⟩:=h5.put nQ ⟨#[103,101,116]⟩ nQ (.agg #[.bool true,.int .i64 2,.bool false,.func (.func 27) #[] #[]]);have V:=o U g6;obtain⟨w7,r7,h7,g7⟩:=h6.put nQ ⟨#[115,117,109]⟩ nQ (.agg #[.bool true,.int .i64 2,.bool false,.func (.func 28) #[] #[]]);have W:=o V g7;obtain⟨w8,r8,h8,g8⟩:=h7.put nQ ⟨#[98,108,111,99,107,115]⟩ nQ (.agg #[.bool false,.int .i64 0,.bool false,.func (.func 29) #[] #[]]);have Y:=o W g8;obtain⟨H,r9,h9,g9⟩:=h8.put nQ ⟨#[99,104,117,110,107]⟩ nQ (.agg #[.bool false,.int .i64 1,.bool true,.func (.func 30) #[] #[]]);have Z:=o Y g9;have F:Hid (MapAt H w.heap.size 9 Sw/\Below w.heap.size w H):=⟨h9,Z⟩;have hmm:=@run_makeMap prog;go_enter func14,ntmps14;go_wp2;go_ret;exact⟨_,rfl,F.out.1,F.out.2,le_refl _⟩
theorem Sy(c:UInt8):∀(l o:List UInt8),∃h t,qN c o l=h::t
 | [],o=>⟨o,[],rfl⟩
 | b::r,o=>by
  rw[qN];split
  ·exact⟨_,_,rfl⟩
  ·exact Sy c r _
theorem M7(c:UInt8):∀(l o:List UInt8),(qN c o l).length<=l.length+1/\∀x,x∈qN c o l->x.length<=o.length+l.length
 | [],o=>⟨le_refl _,λx q=>by rw[mem_singleton.1 q];simp⟩
 | b::r,o=>by
  rw[qN];split
  ·obtain⟨A,z⟩:=M7 c r [];refine⟨by simp only[length_cons] at *;omega,λx q=>?_⟩;rcases mem_cons.1 q with rfl|q
   ·omega
   ·have:=z x q;simp only[length_cons,length_nil] at *;omega
  ·obtain⟨A,z⟩:=M7 c r (o ++ [b]);refine⟨by simp only[length_cons] at *;omega,λx q=>?_⟩;have:=z x q;simp only[length_append,length_cons,length_nil] at *;omega
theorem Sz(w:World)(m:Int)(Y:w.cell? ⟨13,0,none⟩=some (.int .i64 m))(s:ByteArray)(Z:s.size<=1000000):
  Calls prog 54 #[.string s] w λe w'=>∃h t a c,qN 32 [] s.data.toList=h::t/\e = .returned (.tuple #[encStr h,.slice a t.length c])/\uI w' a t/\t.length<=c/\Below w.heap.size w w':=by
 have o:=ü (aaS s Z m w Y);obtain⟨h,t,R⟩:=Sy 32 s.data.toList [];rw[R] at o;have H:=ü R;go_enter func54,ntmps54;go_wp2_with fail;refine Calls.mono o.out ?_;rintro e w1 ⟨n,Q,rfl,F⟩;have z:w1.heap[w.heap.size]? = some (.cells ((((h::t).map txt).map Value.string).toArray) 9 (0,0)):=by rw[F];exact heap_alloc_new _ _
 have K:Below w.heap.size w w1:=by rw[F];exact (Below.refl _ _).alloc (le_refl _) _
 obtain⟨g,O⟩:=bE w.heap.size;rw[<-O] at z ⊢;have V:w1.cell? ⟨g,0,none⟩=some (.string (txt h)):=(ak z 0).trans vI;have U:∀k (q:k<t.length),w1.cell? ⟨g,1+k,none⟩=some (encStr t[k]):=λk q=>(ak z (1+k)).trans (by
  rw[add_comm];simp[q];rfl)
 have A:=ü (And.intro K U);obtain⟨u,D⟩:=bE (txt h:ByteArray);rw[<-D] at V;have I:=ü D;have Ú:n=t.length+1:=Q;clear F z K O Q U D o;by_cases J:t = []
 ·subst J;obtain rfl:n=1:=Ú;go_wp2_with fail;go_quiet (fail);go_wp2;go_ret2;exact⟨h,[],_,_,H.out,by rw[I.out];rfl,λk q=>absurd q (not_lt_zero _),zero_le _,below_draws A.out.1 _⟩
 ·obtain⟨k,q⟩:∃k,t.length=k+1:=⟨t.length-1,by have:=length_pos_iff.2 J;omega⟩;obtain rfl:n=k+2:=fO;have G:=ü q;go_wp2_with fail;go_quiet (fail);go_wp2;go_ret2;refine⟨h,t,some ⟨g,1,none⟩,k+1,H.out,by rw[I.out,G.out];rfl,λj W=>⟨g,1,rfl,A.out.2 j W⟩,by rw[G.out];exact le_refl _,below_draws A.out.1 _⟩
theorem agf{B:Nat}{ea:Nat->Addr}(z:World)(E:oF B ea z)(k:List UInt8)(H:k.length<=100000):
  Calls prog 87 #[encStr k] z λe q=>∃x v,e = .returned (.tuple #[x,v])/\Below z.heap.size z q/\((bH k=0/\v = .nilIface/\q.ownsRow z.heap.size 54 2 x (fT k).length (eO (fT k)))\/(bH k≠0/\∃t p,v = .iface t (.pointer (some p)))):=by
 have h:=Ah z E.sI.c0 E.sI.c1 E.c2 E.c3 (txt k) (by rw[dB];exact H);refine h.mono ?_;rintro e q ⟨x,v,rfl,G,D⟩;have F:(txt k).data.toList=k:=by simp[txt]
 rw[F] at D;refine⟨x,v,rfl,G,?_⟩;rcases D with⟨hs,_,hf⟩|⟨out,hs,hf,_,ho,_⟩
 ·have A:bH k=1:=by unfold bH;rw[hs]
  exact .inr ⟨fO,lY hf nQ⟩
 ·have A:bH k=fC (nameAt out) (cK out) out.length:=by unfold bH;rw[hs]
  have I:fT k=out:=by unfold fT;rw[hs];rfl
  rw[<-A] at hf ho;by_cases o:bH k=0
  ·rw[o] at hf;exact .inl ⟨o,hf.none rfl,by rw[I];exact ho o⟩
  ·exact .inr ⟨o,lY hf o⟩
theorem adw(g o n c:Nat)(D:1<=n)(A:n<=c):∃a',(∀W,(Instr.sliceAt 22 (.slice (some ⟨g,o,none⟩) n c) (some (.int .i64 1)) none none).run prog W = .ok (.slice a' (n-1) (c-1)) W)/\(2<=n->a'=some ⟨g,o+1,none⟩):=by
 have h:∀W,(Instr.sliceAt 22 (.slice (some ⟨g,o,none⟩) n c) (some (.int .i64 1)) none none).run prog W = .ok (.slice (if c=1 then some ⟨g,o,none⟩ else some ⟨g,o+1,none⟩) (n-1) (c-1)) W:=λW=>by
  have z:(1:Int)<=n:=fO;by_cases q:c=1
  ·subst q;go_simp
  ·go_simp
 exact⟨_,h,λq=>if_neg fO⟩
abbrev ajF:Value:=.agg #[.string ⟨#[]⟩,.slice none 0 0,.slice none 0 0]
def GQ(w:World)(L:Bool)(N:Nat)(M:Bool)(ss:List (List UInt8))(e:Ending)(w':World):Prop:=
 ((LX L N M ss=none/\e = .returned (.tuple #[ajF,.bool false]))\/∃k ns lv nv,LX L N M ss=some (k,ns)/\e = .returned (.tuple #[.agg #[encStr k,lv,nv],.bool true])/\w'.ownsRow w.heap.size 3 1 nv ns.length (Dm ns)/\((L=true/\bH k=0/\w'.ownsRow w.heap.size 54 2 lv (fT k).length (eO (fT k)))\/(L=false/\lv = .slice none 0 0)))/\Below w.heap.size w w'
theorem akP{z:World}{b:Nat}{p q r:Value}{t:TypeId}(h:z.heap[b]? = some (.cells #[p,q,r] t (0,0)))(u v x:Value):(((z.setCell ⟨b,0,none⟩ u).setCell ⟨b,1,none⟩ v).setCell ⟨b,2,none⟩ x).heap[b]? = some (.cells #[u,v,x] t (0,0))/\(∀y,y≠b->(((z.setCell ⟨b,0,none⟩ u).setCell ⟨b,1,none⟩ v).setCell ⟨b,2,none⟩ x).heap[y]? = z.heap[y]?)/\∀ {B:Nat} {w:World},Below B w z->B<=b->Below B w (((z.setCell ⟨b,0,none⟩ u).setCell ⟨b,1,none⟩ v).setCell ⟨b,2,none⟩ x):=by
 have D:=(dw h 0 u).trans rfl;have F:=(dw D 1 v).trans rfl;exact⟨(dw F 2 x).trans rfl,λy A=>((Below.heap_setCell _ _ _ _ A).trans (Below.heap_setCell _ _ _ _ A)).trans (Below.heap_setCell _ _ _ _ A),λG o=>((G.setCell (p:=⟨b,0,none⟩) o _).setCell (p:=⟨b,1,none⟩) o _).setCell (p:=⟨b,2,none⟩) o _⟩
structure X5(w wr:World)(b:Nat)(L:Bool)(N:Nat)(M:Bool)(fn:Nat)(ss:List (List UInt8))(k:List UInt8)(rest:List (List UInt8))(lv:Value)(a':Option Addr)(c':Nat):Prop where
 aI:Below w.heap.size w wr
 low:w.heap.size<=b
 b0:wr.heap[b]? = some (.cells #[.bool L,.int .i64 (N:Int),.bool M,.func (.func fn) #[] #[]] 68 (0,0))
 b1:wr.heap[b+1]? = some (.cells #[.string ⟨#[]⟩,.slice none 0 0,.slice none 0 0] 88 (0,0))
 b2:wr.heap[b+1+1]? = some (.cells #[encStr k,lv,.slice none 0 0] 88 (0,0))
 str:uI wr a' rest
 cap:rest.length<=c'
 rd:LX L N M ss=Dl N M k rest
 lab:(L=true/\bH k=0/\wr.ownsRow w.heap.size 54 2 lv (fT k).length (eO (fT k))/\∀x,lv.ownBlock=some x->b+1+1<x)\/(L=false/\lv = .slice none 0 0)
 sub:∀x,x∈rest->x∈ss
 len:rest.length<=ss.length
theorem X6{B:Nat}{ea:Nat->Addr}{T:Nat->List UInt8}(w:World)(E:oH B ea T w)(hB:B<=w.heap.size)(L:Bool)(N:Nat)(M:Bool)(U:Nat)(a:Option Addr)(c:Nat)(ss:List (List UInt8))(hS:uI w a ss)(hc:ss.length<=c)(hz:∀x,x∈ss->x.length<=100000)(hn:ss.length<=1000000):
  Calls prog 55 #[.agg #[.bool L,.int .i64 (N:Int),.bool M,.func (.func U) #[] #[]],.slice a ss.length c] w λe w'=>GQ w L N M ss e w':=by
 have HE:=ü E;have HZ:=ü hz;have HS:Hid (uI w a ss):=hS;obtain⟨n,ϛ⟩:=eD ss.length;rw[ϛ] at hn hc ⊢;have iH:=ü ϛ;obtain⟨W,hW⟩:=bE (((w.alloc (.cells #[.bool L,.int .i64 (N:Int),.bool M,.func (.func U) #[] #[]] 68)).alloc (.cells #[.string ⟨#[]⟩,.slice none 0 0,.slice none 0 0] 88)).alloc (.cells #[.string ⟨#[]⟩,.slice none 0 0,.slice none 0 0] 88));have ώ:Below w.heap.size w (w.alloc (.cells #[.bool L,.int .i64 (N:Int),.bool M,.func (.func U) #[] #[]] 68)):=(Below.refl _ _).alloc (le_refl _) _;have Ϗ:Below w.heap.size w W:=by rw[hW];exact (ώ.alloc vI _).alloc rD _
 have x0:W.heap[w.heap.size]? = some (.cells #[.bool L,.int .i64 (N:Int),.bool M,.func (.func U) #[] #[]] 68 (0,0)):=by
  rw[hW,heap_alloc_old _ _ (h:=rD),heap_alloc_old _ _ (h:=vI)];exact heap_alloc_new _ _
 have Q:W.heap[w.heap.size+1]? = some (.cells #[.string ⟨#[]⟩,.slice none 0 0,.slice none 0 0] 88 (0,0)):=by
  rw[hW,heap_alloc_old _ _ (h:=vI)];simpa using heap_alloc_new (w.alloc (.cells #[.bool L,.int .i64 (N:Int),.bool M,.func (.func U) #[] #[]] 68)) (.cells #[.string ⟨#[]⟩,.slice none 0 0,.slice none 0 0] 88)
 have x2:W.heap[w.heap.size+1+1]? = some (.cells #[.string ⟨#[]⟩,.slice none 0 0,.slice none 0 0] 88 (0,0)):=by
  rw[hW];simpa using heap_alloc_new ((w.alloc (.cells #[.bool L,.int .i64 (N:Int),.bool M,.func (.func U) #[] #[]] 68)).alloc (.cells #[.string ⟨#[]⟩,.slice none 0 0,.slice none 0 0] 88)) (.cells #[.string ⟨#[]⟩,.slice none 0 0,.slice none 0 0] 88)
 obtain⟨b,hb⟩:=bE w.heap.size;have bN:=ü Ϗ;rw[<-hb] at x0 Q x2;have HX:=ü (And.intro x0 (And.intro Q x2));have HW:Hid (∀wx,wx=((w.alloc (.cells #[.bool L,.int .i64 (N:Int),.bool M,.func (.func U) #[] #[]] 68)).alloc (.cells #[.string ⟨#[]⟩,.slice none 0 0,.slice none 0 0] 88)).alloc (.cells #[.string ⟨#[]⟩,.slice none 0 0,.slice none 0 0] 88)->wx=W):=λwx hx=>hx.trans hW.symm
 have Ó:w.heap.size<=b:=by rw[hb];exact le_refl _
 have Vl:=ü Ó;have pO:Hid (∀(z:World) (p q r v0 v1 v2:Value) (f:Bool),z.heap[b+1]? = some (.cells #[p,q,r] 88 (0,0))->Below w.heap.size w z->(∀Z,Below w.heap.size w Z->(∀x,x≠b+1->Z.heap[x]? = z.heap[x]?)->GQ w L N M ss (.returned (.tuple #[.agg #[v0,v1,v2],.bool f])) Z)->∀a:Act,a.tmps[4]?.getD undef = .pointer (some ⟨b+1,0,none⟩)->a.tmps[5]?.getD undef = .bool f->a.defers = []->bodyPost prog Tryz.f55 (λe w'=>GQ w L N M ss e w') Exit.ret a (((z.setCell ⟨b+1,0,none⟩ v0).setCell ⟨b+1,1,none⟩ v1).setCell ⟨b+1,2,none⟩ v2)):=λz p q r v0 v1 v2 f hz Û ģ a h4 h5 hd=>by
  obtain⟨H,h2,h3⟩:=akP hz v0 v1 v2;obtain⟨Z,G⟩:=bE (((z.setCell ⟨b+1,0,none⟩ v0).setCell ⟨b+1,1,none⟩ v1).setCell ⟨b+1,2,none⟩ v2);have h3:=h3 Û fO;rw[<-G] at H h2 h3 ⊢;have z0:=ak H 0;have z1:=ak H 1;have z2:=ak H 2;simp at z0 z1 z2;exact bodyPost_ret (v:=.tuple #[.agg #[v0,v1,v2],.bool f]) (by simp[results,results55,go_sem,z0,z1,z2,h4,h5]) hd (ģ Z h3 h2)
 have c0:=ak x0 0;clear hW ώ Ϗ x0 Q x2 Ó;simp at c0;go_enter func55,ntmps55;go_upto_region 2 with fail;rw[HW.out _ rfl,<-hb];clear HW hb;go_upto_if 12 with fail;go_cut [1,5] from 7 to 34 (λv1 v5 wz=>v5 = .bool false/\∃k rest lv a' c',v1 = .slice a' rest.length c'/\X5 w wz b L N M U ss k rest lv a' c');case first=>
  cases L with
  | false=>
   go_wp2_with fail;go_meet;exact⟨rfl,[],ss,.slice none 0 0,a,c,by rw[iH.out],bN.out,Vl.out,HX.out.1,HX.out.2.1,HX.out.2.2,HS.out.below bN.out,by rw[iH.out];exact hc,rfl,.inr ⟨rfl,rfl⟩,λx h=>h,le_refl _⟩
  | true=>
   obtain⟨x0,Q,x2⟩:=HX.out;have Y:=ak Q 0;have y1:=ak Q 1;have y2:=ak Q 2;have f0:=aA Q 0;have f1:=aA Q 1;have f2:=aA Q 2;simp at Y y1 y2;by_cases h0:n=0
   ·subst h0;have R:Hid (LX true N M ss=none):=by
     show _=_;rw[eq_nil_of_length_eq_zero iH.out];rfl
    go_wp2;exact pO.out W _ _ _ _ _ _ false HX.out.2.1 bN.out (λZ G _=>⟨.inl ⟨R.out,rfl⟩,G⟩) _ rfl rfl rfl
   ·obtain⟨k,rest,V⟩:∃k rest,ss=k::rest:=by
     cases hs:ss with
     | nil=>have:=iH.out;rw[hs] at this;exact absurd this.symm h0
     | cons k rest=>exact⟨k,rest,rfl⟩
    have hnr:n=rest.length+1:=by rw[<-iH.out,V];rfl
    obtain⟨g,o,rfl,ajG⟩:=(HS.out.below bN.out) 0 (by rw[iH.out];omega);have hcg:W.cell? ⟨g,o,none⟩=some (encStr k):=by simpa [V] using ajG
    clear ajG;obtain⟨u,hu⟩:∃u:ByteArray,encStr k = .string u:=⟨_,rfl⟩;have Iq:=ü (agf W (HE.out.below bN.out hB).z.x.k k (HZ.out k (by rw[V];exact mem_cons_self ..)));rw[hu] at hcg Iq;have HK:=ü (And.intro V (And.intro hnr hu));have d0:((n:Int)==0)=false:=wK
    have i1:(0:Int)<n:=fO;have i2:0<n:=fO;clear V hnr hu;go_wp2_with fail;refine Calls.mono Iq.out ?_;rintro e w1 ⟨x,v,rfl,ώ,hr⟩;obtain⟨x0,Q,x2⟩:=HX.out;have J:Hid (w1.heap[b]? = some (.cells #[.bool true,.int .i64 (N:Int),.bool M,.func (.func U) #[] #[]] 68 (0,0))/\w1.heap[b+1]? = some (.cells #[.string ⟨#[]⟩,.slice none 0 0,.slice none 0 0] 88 (0,0))/\w1.heap[b+1+1]? = some (.cells #[.string ⟨#[]⟩,.slice none 0 0,.slice none 0 0] 88 (0,0))):=⟨(ώ.block _ (aC x0)).trans x0,(ώ.block _ (aC Q)).trans Q,(ώ.block _ (aC x2)).trans x2⟩;have HB1:=ü (bN.out.trans (ώ.mono bN.out.size));rcases hr with⟨Č,rfl,O⟩|⟨Č,t,p,rfl⟩
    ·obtain⟨a',Ĕ,ha'⟩:=adw g o n c fO hc;have Y:=ak J.out.2.2 0;have y1:=ak J.out.2.2 1;have f0:=aA J.out.2.2 0;have f1:=aA J.out.2.2 1;simp at Y y1;obtain⟨xa,xc,rfl,_,_⟩:=zX O;have arZ:=(ώ.cell (World.block_lt_of_cell? W ⟨g,o,none⟩ hcg)).trans hcg;have Rb:Hid (X5 w (((w1.setCell ⟨b+1+1,0,none⟩ (.string u)).setCell ⟨b+1+1,1,none⟩ (.slice xa (fT k).length xc)).drew) b true N M U ss k rest (.slice xa (fT k).length xc) a' (c-1)):=by
      obtain⟨V,hnr,hu⟩:=HK.out;have hlo:=Vl.out;have h2:(w1.setCell ⟨b+1+1,0,none⟩ (.string u)).heap[b+1+1]? = some (.cells #[.string u,.slice none 0 0,.slice none 0 0] 88 (0,0)):=(dw J.out.2.2 0 _).trans rfl;have h3:=(dw h2 1 (.slice xa (fT k).length xc)).trans rfl;have à:∀y,y≠b+1+1->((w1.setCell ⟨b+1+1,0,none⟩ (.string u)).setCell ⟨b+1+1,1,none⟩ (.slice xa (fT k).length xc)).heap[y]? = w1.heap[y]?:=λy hy=>(Below.heap_setCell _ _ _ _ hy).trans (Below.heap_setCell _ _ _ _ hy)
      have vG:Below w.heap.size w ((w1.setCell ⟨b+1+1,0,none⟩ (.string u)).setCell ⟨b+1+1,1,none⟩ (.slice xa (fT k).length xc)):=(HB1.out.setCell (p:=⟨b+1+1,0,none⟩) (by show _<=b+1+1;omega) _).setCell (p:=⟨b+1+1,1,none⟩) (by show _<=b+1+1;omega) _;have hWb:=aC HX.out.2.2;refine⟨dz vG,hlo,(à b fO).trans J.out.1,(à (b+1) fO).trans J.out.2.1,by rw[hu];exact h3,λj hj=>?_,fO,?_,.inl ⟨rfl,Č,bC (gD O bN.out.size) λy hy=>à y (by have:=(aH O hy).1;omega),λy hy=>by have:=(aH O hy).1;omega⟩,λy hy=>by rw[V];exact mem_cons_of_mem _ hy,by rw[V];simp⟩
      ·obtain⟨g',o',e',hc'⟩:=HS.out (j+1) (by rw[V];simp;omega);injection e' with e';injection e' with F K _;subst F K;refine⟨g,o+1,ha' fO,?_⟩;rw[show o+1+j=o+(j+1) by omega];refine (show _ from (dz vG).cell (p:=⟨g,o+(j+1),none⟩) (World.block_lt_of_cell? w ⟨g,o+(j+1),none⟩ hc')).trans (hc'.trans ?_);simp[V]
      ·rw[V];exact if_pos Č
     go_wp2_with fail;go_region;go_wp2_with fail;go_meet;exact⟨rfl,k,rest,_,a',c-1,by rw[HK.out.2.1];rfl,Rb.out⟩
    ·have Y:=ak J.out.2.1 0;have y1:=ak J.out.2.1 1;have y2:=ak J.out.2.1 2;have f0:=aA J.out.2.1 0;have f1:=aA J.out.2.1 1;have f2:=aA J.out.2.1 2;simp at Y y1 y2;have R:Hid (LX true N M ss=none):=by
      show _=_;rw[HK.out.1];exact if_neg Č
     go_wp2;exact pO.out w1 _ _ _ _ _ _ false J.out.2.1 HB1.out (λZ G _=>⟨.inl ⟨R.out,rfl⟩,G⟩) _ rfl rfl rfl
 case rest=>
  obtain⟨rfl,k,rest,lv,a',c',rfl,A⟩:=hcut;have D:=(show Hid (X5 w wc b L N M U ss k rest lv a' c') from A);have z1:=ak A.b0 1;have z2:=ak A.b0 2;have š:=A.len;rw[iH.out] at š;simp at z1 z2;obtain⟨m,Š⟩:=bE rest.length;rw[<-Š] at š ⊢;have IK:=ü Š;have yY:=ü (Sv wc (HE.out.below A.aI hB).z.x.a.w.str (HE.out.below A.aI hB).z.x.a.w.pow (le_trans hB A.aI.size) a' c' rest A.str (λx hx=>by have:=HZ.out x (A.sub x hx);omega) fO);have Y:=ak A.b1 0;have y1:=ak A.b1 1;have y2:=ak A.b1 2;have f0:=aA A.b1 0;have f1:=aA A.b1 1;have f2:=aA A.b1 2;simp at Y y1 y2;rw[<-Š] at yY;clear A Š;have wM:Hid (Dl N M k rest=none->∀Z,Below w.heap.size w Z->GQ w L N M ss (.returned (.tuple #[.agg #[.string ⟨#[]⟩,.slice none 0 0,.slice none 0 0],.bool false])) Z):=λh Z G=>⟨.inl ⟨D.out.rd.trans h,rfl⟩,G⟩
  by_cases ϗ:m<N
  ·have d1:decide ((m:Int)<N)=true:=rD;have d1':(m:Int)<N:=fO;have R:Hid (Dl N M k rest=none):=if_pos (.inl (by rw[<-IK.out];exact ϗ));go_wp2;exact pO.out wc _ _ _ _ _ _ false D.out.b1 D.out.aI (λZ G _=>wM.out R.out Z G) _ rfl rfl rfl
  ·have d1:decide ((m:Int)<N)=false:=rD;have d1':decide (m<N)=false:=rD;by_cases hgt:N<m/\M=false
   ·obtain⟨H,rfl⟩:=hgt;have d2:decide ((N:Int)<m)=true:=rD;have d2':(N:Int)<m:=fO;have R:Hid (Dl N false k rest=none):=if_pos (.inr ⟨by rw[<-IK.out];exact H,rfl⟩);go_wp2;exact pO.out wc _ _ _ _ _ _ false D.out.b1 D.out.aI (λZ G _=>wM.out R.out Z G) _ rfl rfl rfl
   ·have kN:Hid (Dl N M k rest=(numsL rest).map λns=>(k,ns)):=if_neg λh=>by
     rw[<-IK.out] at h;rcases h with h|h
     ·exact ϗ h
     ·exact hgt h
    have hcase:(N<m/\M=true)\/(decide (N<m)=false/\decide ((N:Int)<m)=false):=by
     by_cases H:N<m
     ·refine .inl ⟨H,?_⟩;cases M with
      | true=>rfl
      | false=>exact absurd ⟨H,rfl⟩ hgt
     ·exact .inr ⟨rD,rD⟩
    have aQ:Hid (∀(I:World) (ns:List Int) (v:Value),numsL rest=some ns->Below wc.heap.size wc I->I.ownsRow wc.heap.size 3 1 v ns.length (Dm ns)->∀Z,Below w.heap.size w Z->(∀x,x≠b+1->Z.heap[x]? = (I.setCell ⟨b+1+1,2,none⟩ v).heap[x]?)->GQ w L N M ss (.returned (.tuple #[.agg #[encStr k,lv,v],.bool true])) Z):=λI ns v á Ϛ O Z G he=>by
     have A:=D.out;have Ô:=aC A.b2;have à:∀x,x≠b+1->x≠b+1+1->Z.heap[x]? = I.heap[x]?:=λx H h2=>(he x H).trans (Below.heap_setCell _ _ _ _ h2)
     refine⟨.inr ⟨k,ns,lv,v,by rw[A.rd,kN.out,á];rfl,rfl,gD (bC O λg hg=>?_) A.aI.size,?_⟩,G⟩
     ·have:=(aH O hg).1;exact à g fO fO
     ·rcases A.lab with⟨H,h2,h3,h4⟩|h
      ·refine .inl ⟨H,h2,bC (aX h3 Ϛ) λg hg=>?_⟩;have:=h4 g hg;exact à g fO fO
      ·exact .inr h
    have HB2:Hid (∃u:ByteArray,encStr k = .string u/\((∃q1 q2 q3,lv = .slice q1 q2 q3):Prop)):=by
     refine⟨_,rfl,?_⟩;rcases D.out.lab with⟨_,_,h3,_⟩|⟨_,h⟩
     ·obtain⟨xa,xc,h,_,_⟩:=zX h3;exact⟨_,_,_,h⟩
     ·exact⟨_,_,_,h⟩
    rcases hcase with⟨H,rfl⟩|⟨H,h2⟩
    ·have d2:decide ((N:Int)<m)=true:=rD;have d2':(N:Int)<m:=fO;go_wp2_with fail;refine Calls.mono yY.out ?_;rintro e I ⟨hrn,Ϛ⟩;have F:=(Ϛ.block _ (aC D.out.b1)).trans D.out.b1;have K:=(Ϛ.block _ (aC D.out.b2)).trans D.out.b2;have za:=ü (And.intro F (D.out.aI.trans (Ϛ.mono D.out.aI.size)));have Y:=ak F 0;have y1:=ak F 1;have y2:=ak F 2;have f0:=aA F 0;have f1:=aA F 1;have f2:=aA F 2;simp at Y y1 y2;rcases hrn with⟨Ð,rfl⟩|⟨ns,v,Ð,rfl,O⟩
     ·have R:=ü (wM.out (by rw[kN.out,Ð];rfl));go_wp2;exact pO.out I _ _ _ _ _ _ false za.out.1 za.out.2 (λZ G _=>R.out Z G) _ rfl rfl rfl
     ·have HF:=ü (aQ.out I ns v Ð Ϛ O);obtain⟨va,vc,rfl⟩:=bA O;obtain⟨u,hu,q1,q2,q3,rfl⟩:=HB2.out;rw[hu] at K HF;have z0:=ak K 0;have z1:=ak K 1;have z2:=ak K 2;have g2:=aA K 2;simp at z0 z1 z2;have hE:Hid ((I.setCell ⟨b+1+1,2,none⟩ (.slice va ns.length vc)).heap[b+1]? = some (.cells #[.string ⟨#[]⟩,.slice none 0 0,.slice none 0 0] 88 (0,0))/\Below w.heap.size w (I.setCell ⟨b+1+1,2,none⟩ (.slice va ns.length vc))):=⟨(Below.heap_setCell _ _ _ _ vI).trans F,za.out.2.setCell (p:=⟨b+1+1,2,none⟩) (by have:=Vl.out;show _<=b+1+1;omega) _⟩;go_wp2;exact pO.out _ _ _ _ _ _ _ true hE.out.1 hE.out.2 HF.out _ rfl rfl rfl
    ·go_wp2_with fail;refine Calls.mono yY.out ?_;rintro e I ⟨hrn,Ϛ⟩;have F:=(Ϛ.block _ (aC D.out.b1)).trans D.out.b1;have K:=(Ϛ.block _ (aC D.out.b2)).trans D.out.b2;have za:=ü (And.intro F (D.out.aI.trans (Ϛ.mono D.out.aI.size)));have Y:=ak F 0;have y1:=ak F 1;have y2:=ak F 2;have f0:=aA F 0;have f1:=aA F 1;have f2:=aA F 2;simp at Y y1 y2;rcases hrn with⟨Ð,rfl⟩|⟨ns,v,Ð,rfl,O⟩
     ·have R:=ü (wM.out (by rw[kN.out,Ð];rfl));go_wp2;exact pO.out I _ _ _ _ _ _ false za.out.1 za.out.2 (λZ G _=>R.out Z G) _ rfl rfl rfl
     ·have HF:=ü (aQ.out I ns v Ð Ϛ O);obtain⟨va,vc,rfl⟩:=bA O;obtain⟨u,hu,q1,q2,q3,rfl⟩:=HB2.out;rw[hu] at K HF;have z0:=ak K 0;have z1:=ak K 1;have z2:=ak K 2;have g2:=aA K 2;simp at z0 z1 z2;have hE:Hid ((I.setCell ⟨b+1+1,2,none⟩ (.slice va ns.length vc)).heap[b+1]? = some (.cells #[.string ⟨#[]⟩,.slice none 0 0,.slice none 0 0] 88 (0,0))/\Below w.heap.size w (I.setCell ⟨b+1+1,2,none⟩ (.slice va ns.length vc))):=⟨(Below.heap_setCell _ _ _ _ vI).trans F,za.out.2.setCell (p:=⟨b+1+1,2,none⟩) (by have:=Vl.out;show _<=b+1+1;omega) _⟩;go_wp2;exact pO.out _ _ _ _ _ _ _ true hE.out.1 hE.out.2 HF.out _ rfl rfl rfl
end Go.Proofs.YtnjmhjdhfaboaaaGreatDoor
