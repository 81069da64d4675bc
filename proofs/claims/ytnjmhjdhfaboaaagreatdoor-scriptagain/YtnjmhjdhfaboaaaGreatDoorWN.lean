import Derived.Test.YtnjmhjdhfaboaaaGreatDoorQ
import Derived.Sort.Walk0
set_option maxRecDepth 1000000
set_option maxHeartbeats 2000000
open Nat (le_refl lt_or_ge zero_le)
open Go.Proofs.Tryz
namespace Go.Proofs.YtnjmhjdhfaboaaaGreatDoor
open Go.RowKit aD
theorem Ě{p:Prop}(h:p):Go.RowKit.Hid p:=h
theorem Pv(v y:ByteArray)(w:World):
  Calls prog 225 #[.string v,.string y] w λe w'=>e = .returned (.bool (decide (y.size<=v.size)&&((v.extract 0 y.size).toList==y.toList)))/\w'=w:=by
 have o:Hid (Calls prog 268 #[.string v,.string y] w λe w'=>e = .returned (.bool (decide (y.size<=v.size)&&((v.extract 0 y.size).toList==y.toList)))/\w'=w):=by
  show Calls _ _ _ _ _;by_cases h:y.size<=v.size
  ·have d:decide ((y.size:Int)<=v.size)=true:=oI;have D:(y.size:Int)<=v.size:=fM;have A:(0:Int)<=y.size:=fM;have j:=Ě (decide_eq_true h);go_enter func268,ntmps268;go_wp2;go_ret;exact⟨by rw[j.out];rfl,rfl⟩
  ·have d:decide ((y.size:Int)<=v.size)=false:=oI;have j:=Ě (decide_eq_false h);go_enter func268,ntmps268;go_wp2;go_ret;exact⟨by rw[j.out];rfl,rfl⟩
 go_enter func225,ntmps225;go_wp2_with fail;refine Calls.mono o.out ?_;rintro e w1 ⟨rfl,z⟩;have q:=z.symm;subst q;go_wp2;go_ret;exact⟨rfl,rfl⟩
noncomputable def JU(N V:Nat->ByteArray)(x:ByteArray)(n:Nat):ByteArray:=if iF (λi=>!((N i).toList==x.toList)) n<n then V (iF (λi=>!((N i).toList==x.toList)) n) else ⟨#[]⟩
theorem UC(w:World)(H:Option Addr)(n c:Nat)(N V:Nat->ByteArray)(hP:ng w H n N V)(hn:n<=1000)(x:ByteArray):
  Calls prog 203 #[.slice H n c,.string x] w λe w'=>e = .returned (.string (JU N V x n))/\Below w.heap.size w w':=by
 have Y:Hid (ng w H n N V):=hP;obtain⟨g,g1,g2⟩:=jD (λi=>!((N i).toList==x.toList)) n;have K:Hid (JU N V x n=if iF (λi=>!((N i).toList==x.toList)) n<n then V (iF (λi=>!((N i).toList==x.toList)) n) else ⟨#[]⟩):=rfl;generalize iF (λi=>!((N i).toList==x.toList)) n=m at *;have iZ:=Ě g1;have F:=Ě g2;go_enter func203,ntmps203;go_wp2_with fail;go_loopw [6,9,10] (λ_ i _ wr=>∃k:Nat,k<=m/\i = .int .i64 k/\Below w.heap.size w wr) (λ_ i _ _=>n-(intOf i).toNat);case atStart=>exact⟨0,zero_le _,rfl,Below.refl _ _⟩
 case round=>
  obtain⟨k,hk,rfl,j⟩:=hrel;by_cases J:k<n
  ·obtain⟨lb,lo,rfl,ϥ⟩:=Y.out.at k J;obtain⟨O,Z⟩:=ϥ k J;have U:lb<w.heap.size:=World.block_lt_of_cell? w ⟨lb,_,none⟩ O;have Ý:(0:Int)<=k:=fM;have ϓ:(k:Int)<n:=fM;have Q:=(j.cell (p:=⟨lb,_,none⟩) U).trans O;have R:=(j.cell (p:=⟨lb,_,none⟩) U).trans Z;have q:=Ě j;have W:=j.size;cases z:((N k).toList==x.toList) with
   | true=>
    have I:k=m:=by
     rcases lt_or_ge k m with h|h
     ·have:=iZ.out k h;rw[z] at this;cases this
     ·omega
    have o:Hid (JU N V x n=V k):=by show _=_;rw[K.out,<-I,if_pos J]
    obtain⟨t1,A⟩:=eB (N k);obtain⟨t2,D⟩:=eB (V k);rw[A] at Q z;rw[D] at R o;clear A D I;go_wp2;go_ret;exact⟨by rw[o.out];rfl,q.out.alloc W _⟩
   | false=>
    have I:k<m:=by
     rcases lt_or_ge k m with h|h
     ·exact h
     ·exfalso;have G:m=k:=fM
      have:=F.out fM;rw[G,z] at this;cases this
    obtain⟨t1,A⟩:=eB (N k);obtain⟨t2,D⟩:=eB (V k);rw[A] at Q z;rw[D] at R;go_wp2;go_roundw;case rel=>exact⟨k+1,fM,rU,q.out.alloc W _⟩
    case measure=>simp[intOf]<;>omega
  ·have θ:(n:Int)<=k:=fM;have o:Hid (JU N V x n=⟨#[]⟩):=by show _=_;rw[K.out,if_neg fM]
   have q:=Ě j;go_wp2;go_ret;exact⟨by rw[o.out];rfl,q.out⟩
theorem ade(N V:Nat->ByteArray)(n:Nat)(H:∀i,i<n->iN N V i=true):∀j,j<n->∀i,i<j->(N i).toList<(N j).toList:=by
 have step:∀j,j+1<n->(N j).toList<(N (j+1)).toList:=λj q=>by
  have h:=H (j+1) q;unfold iN at h;rw[Bool.and_eq_true] at h;have z:=h.2;simp[Io] at z;obtain⟨A,D⟩:=z;rw[bytesLess_eq] at A;have F:=of_decide_eq_false A;rcases Std.Trichotomous.rel_or_eq_or_rel_swap (r:=(· < · : List UInt8->List UInt8->Prop)) (a:=(N j).toList) (b:=(N (j+1)).toList) with o|o|o
  ·exact o
  ·exact absurd o.symm D
  ·exact absurd o F
 intro j;induction j with
 | zero=>intro _ i G;omega
 | succ j ih=>
  intro q i G;rcases lt_or_ge i j with h|h
  ·exact List.lt_trans (ih fM i h) (step j q)
  ·have:i=j:=fM;rw[this];exact step j q
theorem adf(N V:Nat->ByteArray)(n:Nat)(x:ByteArray)(G:∀i,i<n->iN N V i=true):JU N V x n=nJ N V x n:=by
 obtain⟨g,A,D⟩:=jD (λi=>!((N i).toList==x.toList)) n;unfold JU;generalize iF (λi=>!((N i).toList==x.toList)) n=m at *;have none:∀k,k<=m->nJ N V x k=⟨#[]⟩:=λk=>by
  induction k with
  | zero=>intro _;rfl
  | succ k ih=>
   intro J;have:=A k fM;rw[nJ,if_neg (by simpa using this)];exact ih fM
 by_cases j:m<n
 ·rw[if_pos j];have q:(N m).toList=x.toList:=by simpa using D j
  have F:∀k,m<k->k<=n->nJ N V x k=V m:=λk=>by
   induction k with
   | zero=>intro h;omega
   | succ k ih=>
    intro H I;rw[nJ];rcases lt_or_ge m k with h|h
    ·have o:=ade N V n G k fM m h;rw[if_neg ?_]
     ·exact ih h fM
     ·intro e;have z:(N k).toList=x.toList:=by simpa using e
      rw[q,z] at o;exact List.lt_irrefl _ o
    ·have:k=m:=fM;rw[this,if_pos (by simpa using q)]
  exact (F n j (le_refl _)).symm
 ·rw[if_neg j];exact (none n fM).symm
noncomputable def mC(K:Nat->Nat)(N:Nat->ByteArray)(n:Nat):Int:=if 6<n then 2 else if iF (pW K N) n<n then (if kindOk (K (iF (pW K N) n))=true then 4 else 11) else 0
noncomputable def mA(K:Nat->Nat)(N:Nat->ByteArray)(n:Nat):Int:=if 6<n then -1 else if iF (pW K N) n<n then (iF (pW K N) n:Int) else -1
theorem JV(K:Nat->Nat)(N:Nat->ByteArray)(n:Nat):0<=mC K N n/\(mC K N n=0->n<=6/\∀i,i<n->pW K N i=true):=by
 unfold mC;by_cases o:6<n
 ·rw[if_pos o];exact⟨fM,λh=>fM⟩
 ·rw[if_neg o];by_cases q:iF (pW K N) n<n
  ·rw[if_pos q];split
   ·exact⟨fM,λh=>fM⟩
   ·exact⟨fM,λh=>fM⟩
  ·rw[if_neg q];obtain⟨g,j,A⟩:=jD (pW K N) n;have z:iF (pW K N) n=n:=fM
   rw[z] at j;exact⟨fM,λ_=>⟨fM,j⟩⟩
theorem agm(w:World)(j:Option Addr)(n c:Nat)(z:6<n)(A:(n:Int)<=9223372036854775807)(a:Addr)(o:w.cell? ⟨0,0,none⟩=some (.iface 397 (.pointer (some a)))):
  Calls prog 113 #[.slice j n c] w λe w'=>e = .returned (.iface 397 (.pointer (some a)))/\w'=w:=by
 have q:decide ((6:Int)<n)=true:=oI;go_enter func113,ntmps113;go_wp2;go_ret;exact⟨rfl,rfl⟩
def alc(w w':World)(K:Nat->Nat)(m n:Nat)(aN aK:Addr)(e:Ending):Prop:=
 Below w.heap.size w w'/\((m=n/\e = .returned .nilIface)\/(m<n/\∃pb:Nat,e = .returned (.iface 72 (.pointer (some ⟨pb,0,none⟩)))/\w'.cell? ⟨pb,0,none⟩=some (.int .i64 (m:Int))/\w'.cell? ⟨pb,1,none⟩=some (.iface 397 (.pointer (some (if kindOk (K m)=true then aN else aK))))))
theorem aiM(w:World)(la:Option Addr)(n c:Nat)(K:Nat->Nat)(N V:Nat->ByteArray)(hP:qV w la n K N V)(Ϡ:∀i,i<n->(N i).size<=1000000)(hn:n<=6)(m:Nat)(hm:m<=n)(ϲ:∀i,i<m->pW K N i=true)(ϩ:m<n->pW K N m=false)
  (H G:Addr) (Nv:w.cell? ⟨3,0,none⟩=some (.iface 397 (.pointer (some H)))) (O:w.cell? ⟨10,0,none⟩=some (.iface 397 (.pointer (some G)))) :
  Calls prog 113 #[.slice la n c] w λe w'=>alc w w' K m n H G e:=by
 have HP:Hid (qV w la n K N V):=hP;have fI:=Ě ϲ;have A:=Ě ϩ;have fQ:=Ě Ϡ;have tN:=Ě Nv;have HEK:=Ě O;have hGN:=World.block_lt_of_cell? w ⟨3,0,none⟩ Nv;have hGK:=World.block_lt_of_cell? w ⟨10,0,none⟩ O;have hd:decide ((6:Int)<n)=false:=oI;go_enter func113,ntmps113;go_wp2_with fail;go_loopw [3,4,11] (λ_ _ i wr=>∃k:Nat,k<=m/\i = .int .i64 k/\Below w.heap.size w wr) (λ_ _ i _=>n-(intOf i).toNat);case atStart=>exact⟨0,zero_le _,rfl,Below.refl _ _⟩
 case round=>
  obtain⟨k,hk,rfl,o⟩:=hrel;by_cases W:k<n
  ·obtain⟨lb,lo,rfl,ϥ⟩:=HP.out.at k W;obtain⟨c0,c1,c2,aeZ⟩:=ϥ k W;have Ì:lb<w.heap.size:=World.block_lt_of_cell? w ⟨lb,_,none⟩ c0;have Ý:(0:Int)<=k:=fM;have ϓ:(k:Int)<n:=fM;have e0:=(o.cell (p:=⟨lb,_,none⟩) Ì).trans c0;have e1:=(o.cell (p:=⟨lb,_,none⟩) Ì).trans c1;have e2:=(o.cell (p:=⟨lb,_,none⟩) Ì).trans c2;have I:=Ě o;have Ñ:=o.size;have gN:=(o.cell (p:=⟨3,0,none⟩) hGN).trans tN.out;have gK:=(o.cell (p:=⟨10,0,none⟩) hGK).trans HEK.out;have hG1:3<wr.heap.size:=fM;have hG7:10<wr.heap.size:=fM;have Ϸ:=λw0=>Im (N k) w0 (fQ.out k W)
   have ê:pW K N k=(kindOk (K k)&&isName (N k)):=rfl;obtain⟨bn,ŀ⟩:=eB (isName (N k));rw[ŀ] at Ϸ ê;have gX:=Ě Ϸ;have Z:=Ě ê;obtain⟨j,ñ⟩:=eB (K k);rw[ñ] at e0 aeZ Z;have D:=Ě ñ;have QD:Hid (kindOk j=decide (j=61\/j=33\/j=126)):=rfl;obtain⟨t1,Ğ⟩:=eB (N k);obtain⟨t2,τ⟩:=eB (V k);rw[Ğ] at e1 gX;rw[τ] at e2;cases q:kindOk j with
   | false=>
    have U:k=m:=by
     rcases lt_or_ge k m with h|h
     ·have:=fI.out k h;rw[Z.out,q] at this;cases this
     ·omega
    subst U;have sK:Hid ((if kindOk (K k)=true then H else G)=G):=by show _=_;rw[D.out,q];rfl
    have Ø:¬ (j=61\/j=33\/j=126):=by rw[QD.out] at q;exact of_decide_eq_false q
    have z:((j:Int) != 61)=true:=by rw[bne_iff_ne];omega
    have J:((j:Int) != 33)=true:=by rw[bne_iff_ne];omega
    have Y:((j:Int) != 126)=true:=by rw[bne_iff_ne];omega
    go_wp2;go_ret;exact⟨(I.out.alloc Ñ _).alloc oI _,.inr ⟨W,wr.heap.size+1,rQ,(oL rQ 0).trans rQ,(oL rQ 1).trans (by rw[sK.out];simp)⟩⟩
   | true=>
    have ψ:j=61\/j=33\/j=126:=by rw[QD.out] at q;exact of_decide_eq_true q
    have F:=Ě q;have R:∀(P:Prop),(∀z J Y:Bool,((j:Int) != 61)=z->((j:Int) != 33)=J->((j:Int) != 126)=Y->(z=false\/(z=true/\J=false)\/(z=true/\J=true/\Y=false))->P)->P:=λP h=>by
     refine h _ _ _ rfl rfl rfl ?_;rcases ψ with rfl|rfl|rfl
     ·exact .inl rfl
     ·exact .inr (.inl ⟨rfl,rfl⟩)
     ·exact .inr (.inr ⟨rfl,rfl,rfl⟩)
    refine R _ ?_;intro z J Y q1 q2 q3 Q;clear ψ R;cases bn with
    | false=>
     have U:k=m:=by
      rcases lt_or_ge k m with h|h
      ·have:=fI.out k h;rw[Z.out,Bool.and_false] at this;cases this
      ·omega
     subst U;have sK:Hid ((if kindOk (K k)=true then H else G)=H):=by show _=_;rw[D.out,F.out];rfl
     rcases Q with h|⟨h,h'⟩|⟨h,h',h''⟩<;>subst_vars<;>
     ·go_wp2_with fail;refine Calls.mono (gX.out _) ?_;rintro e w1 ⟨rfl,ϕ⟩;have aY:=ϕ;subst aY;go_wp2;go_ret;exact⟨(I.out.alloc Ñ _).alloc oI _,.inr ⟨W,wr.heap.size+1,rQ,(oL rQ 0).trans rQ,(oL rQ 1).trans (by rw[sK.out];simp)⟩⟩
    | true=>
     have U:k<m:=by
      rcases lt_or_ge k m with h|h
      ·exact h
      ·exfalso;have hme:m=k:=fM
       have:=A.out fM;rw[hme,Z.out,F.out] at this;cases this
     rcases Q with h|⟨h,h'⟩|⟨h,h',h''⟩<;>subst_vars<;>
     ·go_wp2_with fail;refine Calls.mono (gX.out _) ?_;rintro e w1 ⟨rfl,ϕ⟩;have aY:=ϕ;subst aY;go_wp2;go_roundw;case rel=>exact⟨k+1,fM,rU,I.out.alloc Ñ _⟩
      case measure=>simp[intOf]<;>omega
  ·have U:k=m:=fM;have Û:m=n:=fM;have I:=Ě o;go_wp2;go_ret;exact⟨I.out,.inl ⟨Û,rfl⟩⟩
theorem adh{B:Nat}{ea:Nat->Addr}(w:World)(E:Ce B ea w)(o:Option Addr)(n c:Nat)(K:Nat->Nat)(N V:Nat->ByteArray)(J:qV w o n K N V)(Q:∀i,i<n->(N i).size<=1000000)(O:(n:Int)<=9223372036854775807):
  Calls prog 113 #[.slice o n c] w λe w'=>∃v,e = .returned v/\Below w.heap.size w w'/\aM ea w' v (mC K N n) (mA K N n):=by
 by_cases j:6<n
 ·refine (agm w o n c j O (ea 1) E.c1).mono ?_;rintro e w' ⟨rfl,rfl⟩;exact⟨_,rfl,Below.refl _ _,.inr (.inl ⟨1,fM,rfl,by unfold mC;rw[if_pos j];rfl,by unfold mA;rw[if_pos j]⟩)⟩
 ·obtain⟨g,H,I⟩:=jD (pW K N) n;refine (aiM w o n c K N V J Q fM _ g H I (ea 3) (ea 10) E.c3 E.c10).mono ?_;rintro e w' ⟨A,⟨z,rfl⟩|⟨z,G,rfl,F,q⟩⟩
  ·exact⟨_,rfl,A,.inl ⟨rfl,by unfold mC;rw[if_neg j,if_neg fM]⟩⟩
  ·refine⟨_,rfl,A,.inr (.inr ?_)⟩;unfold mC mA;rw[if_neg j,if_pos z,if_neg j,if_pos z];by_cases D:kindOk (K (iF (pW K N) n))=true
   ·rw[if_pos D] at q ⊢;exact⟨G,3,fM,rfl,F,q,rfl⟩
   ·rw[if_neg D] at q ⊢;exact⟨G,10,fM,rfl,F,q,rfl⟩
theorem aaA(v:ByteArray)(k:Nat)(x y:ByteArray)(w:World)(A:kindOk k=true):
  Calls prog 202 #[.string v,.agg #[.int .u8 (k:Int),.string x,.string y]] w λe w'=>e = .returned (.bool (zW k v y))/\Below w.heap.size w w':=by
 have F:=of_decide_eq_true A;have o:Hid (Below w.heap.size w (w.alloc (.cells #[.int .u8 (k:Int),.string x,.string y] 149))):=(Below.refl _ _).alloc (le_refl _) _;have q:Hid _:=λD=>Pv v y D
 rcases F with rfl|rfl|rfl
 ·have j:Hid (zW 61 v y=(v.toList==y.toList)):=rfl;go_enter func202,ntmps202;go_wp2;go_ret;exact⟨by rw[j.out];rfl,o.out⟩
 ·have j:Hid (zW 33 v y = !(v.toList==y.toList)):=rfl;go_enter func202,ntmps202;go_wp2;go_ret;exact⟨by rw[j.out];rfl,o.out⟩
 ·have j:Hid (zW 126 v y=(decide (y.size<=v.size)&&((v.extract 0 y.size).toList==y.toList))):=rfl;go_enter func202,ntmps202;go_wp2_with fail;refine Calls.mono (q.out _) ?_;rintro e w1 ⟨rfl,G⟩;have z:=G;subst z;go_wp2;go_ret;exact⟨by rw[j.out];rfl,o.out⟩
def JW(ea:Nat->Addr)(w w':World)(N V:Nat->ByteArray)(n:Nat)(K:Nat->Nat)(X Y:Nat->ByteArray)(m:Nat)(e:Ending):Prop:=
 Below w.heap.size w w'/\∃(b:Bool) (v:Value),e = .returned (.tuple #[.bool b,v]) /\
  ((0<fC N V n/\b=false/\aM ea w' v (fC N V n) (fA N V n))\/(fC N V n=0/\0<mC K X m/\b=false/\aM ea w' v (mC K X m) (mA K X m))\/(fC N V n=0/\mC K X m=0/\b=qW N V n K X Y m/\v = .nilIface))
theorem aM.some{ea:Nat->Addr}{w:World}{v:Value}{C A:Int}(h:aM ea w v C A)(j:0<C):(∃q,v = .iface 397 (.pointer (some q)))\/∃q,v = .iface 72 (.pointer (some q)):=by
 rcases h with⟨_,h⟩|⟨m,_,h,_⟩|⟨pb,m,_,h,_⟩
 ·omega
 ·exact .inl ⟨_,h⟩
 ·exact .inr ⟨_,h⟩
theorem agn{B:Nat}{ea:Nat->Addr}(w:World)(E:Ce B ea w)(hB:B<=w.heap.size)(O lm:Option Addr)(n c m cm:Nat)(N V:Nat->ByteArray)(K:Nat->Nat)(X Y:Nat->ByteArray)(hL:ng w O n N V)(hM:qV w lm m K X Y)
  (Ϡ:∀i,i<n->(N i).size<=1000000/\(V i).size<=1000000) (hsx:∀i,i<m->(X i).size<=1000000) (hn:(n:Int)<=9223372036854775807) (hm:(m:Int)<=9223372036854775807) :
  Calls prog 160 #[.slice O n c,.slice lm m cm] w λe w'=>JW ea w w' N V n K X Y m e:=by
 have wL:Hid _:=acG w E O n c N V hL Ϡ hn;have HL:Hid (ng w O n N V):=hL;have HM:Hid (qV w lm m K X Y):=hM;have hC0:=(xg N V n).1;have Z:=Ě ((xg N V n).2);have hM0:=(JV K X m).1;have HMZ:=Ě ((JV K X m).2);have Zl:=(show Hid _ from λ(j:World) (h0:Below w.heap.size w j)=>adh j (E.below h0 hB) lm m cm K X Y (by
  rcases hM with h|⟨b,o,h,hc⟩
  ·exact .inl h
  ·refine .inr ⟨b,o,h,λk hk=>?_⟩;obtain⟨q0,q1,q2,q3⟩:=hc k hk;have hl:b<w.heap.size:=World.block_lt_of_cell? w ⟨b,_,none⟩ q0;exact⟨(h0.cell (p:=⟨b,_,none⟩) hl).trans q0,(h0.cell (p:=⟨b,_,none⟩) hl).trans q1,(h0.cell (p:=⟨b,_,none⟩) hl).trans q2,q3⟩) hsx hm)
 unfold JW;obtain⟨C,hC⟩:=eB (fC N V n);obtain⟨A,hA⟩:=eB (fA N V n);obtain⟨C2,hC2⟩:=eB (mC K X m);obtain⟨A2,ξ⟩:=eB (mA K X m);rw[hC] at wL hC0 Z ⊢;rw[hA] at wL ⊢;rw[hC2] at Zl hM0 HMZ ⊢;rw[ξ] at Zl ⊢;go_enter func160,ntmps160;go_wp2_with fail;refine Calls.mono wL.out ?_;rintro e w1 ⟨v,rfl,ώ,D⟩;have F:=Ě ώ;have qM:=Ě D;by_cases OG:0<C
 ·rcases D.some OG with⟨q,rfl⟩|⟨q,rfl⟩<;>
  ·clear ώ D;go_wp2;go_ret2;exact⟨F.out,_,_,rfl,.inl ⟨OG,rfl,qM.out⟩⟩
 ·have z:C=0:=fM;have hv:=D.none z;subst hv;have C9:=Ě (Zl.out w1 ώ);go_wp2_with fail;refine Calls.mono C9.out ?_;rintro e w2 ⟨v,rfl,ϒ,D⟩;have Q:=Ě (F.out.trans (ϒ.mono F.out.size));have qM:=Ě D;by_cases hMp:0<C2
  ·rcases D.some hMp with⟨q,rfl⟩|⟨q,rfl⟩<;>
   ·clear ϒ D;go_wp2;go_ret2;exact⟨Q.out,_,_,rfl,.inr (.inl ⟨z,hMp,rfl,qM.out⟩)⟩
  ·have H:C2=0:=fM;have hv:=D.none H;subst hv;have hz:=Z.out z;have hy:=HMZ.out H;have HVS:Hid (∀x,JU N V x n=nJ N V x n):=λx=>adf N V n x hz.2.2.2
   have aop:Hid (∀i,i<m->kindOk (K i)=true):=λi hi=>by
    have:=hy.2 i hi;unfold pW at this;rw[Bool.and_eq_true] at this;exact this.1
   have hn6:=hz.2.1;have hm6:=hy.1;go_wp2_with fail;go_loopw [9,22,23] (λ_ i _ wr=>∃k:Nat,k<=m/\i = .int .i64 k/\Below w.heap.size w wr/\qW N V n K X Y k=true) (λ_ i _ _=>m-(intOf i).toNat);case atStart=>exact⟨0,zero_le _,rfl,Q.out,rfl⟩
   case round=>
    obtain⟨k,hk,rfl,J,I⟩:=hrel;have bA:=Ě J;have Ñ:=J.size;by_cases ϣ:k<m
    ·obtain⟨lb,lo,rfl,ϥ⟩:=HM.out.at k ϣ;obtain⟨c0,c1,c2,aeZ⟩:=ϥ k ϣ;have Ì:lb<w.heap.size:=World.block_lt_of_cell? w ⟨lb,_,none⟩ c0;have Ý:(0:Int)<=k:=fM;have ϓ:(k:Int)<m:=fM;have e0:=(J.cell (p:=⟨lb,_,none⟩) Ì).trans c0;have e1:=(J.cell (p:=⟨lb,_,none⟩) Ì).trans c1;have e2:=(J.cell (p:=⟨lb,_,none⟩) Ì).trans c2;obtain⟨W,hW⟩:=bF (wr.alloc (.cells #[.int .u8 (K k:Int),.string (X k),.string (Y k)] 149));have hWb:Below wr.heap.size wr W:=by rw[hW];exact (Below.refl _ _).alloc (le_refl _) _
     have G:W.heap[wr.heap.size]? = some (.cells #[.int .u8 (K k:Int),.string (X k),.string (Y k)] 149 (0,0)):=by rw[hW];exact heap_alloc_new _ _
     have VA:wr.heap.size<W.heap.size:=by rw[hW];simp
     have OH:=Ě (J.trans (hWb.mono Ñ));have k0:W.cell? ⟨wr.heap.size,0,none⟩=some (.int .u8 (K k:Int)):=by simp[World.cell?,G]
     have k1:W.cell? ⟨wr.heap.size,1,none⟩=some (.string (X k)):=by simp[World.cell?,G]
     have k2:W.cell? ⟨wr.heap.size,2,none⟩=some (.string (Y k)):=by simp[World.cell?,G]
     have HS:Hid (∀j,Below W.heap.size W j->j.cell? ⟨wr.heap.size,0,none⟩=some (.int .u8 (K k:Int))/\j.cell? ⟨wr.heap.size,1,none⟩=some (.string (X k))/\j.cell? ⟨wr.heap.size,2,none⟩=some (.string (Y k))):=λj h=>⟨(h.cell (p:=⟨wr.heap.size,0,none⟩) VA).trans (by simp[World.cell?,G]),(h.cell (p:=⟨wr.heap.size,1,none⟩) VA).trans (by simp[World.cell?,G]),(h.cell (p:=⟨wr.heap.size,2,none⟩) VA).trans (by simp[World.cell?,G])⟩
     have HVO:Hid (∀j,Below W.heap.size W j->Calls prog 203 #[.slice O n c,.string (X k)] j λe w'=>e = .returned (.string (nJ N V (X k) n))/\(w'.cell? ⟨wr.heap.size,0,none⟩=some (.int .u8 (K k:Int))/\w'.cell? ⟨wr.heap.size,1,none⟩=some (.string (X k))/\w'.cell? ⟨wr.heap.size,2,none⟩=some (.string (Y k)))/\Below W.heap.size W w'):=λj h=>by
      have hw0:=OH.out.trans (h.mono OH.out.size);have hc:=UC j O n c N V (HL.out.below hw0) fM (X k);rw[HVS.out] at hc;refine hc.mono ?_;rintro e w' ⟨rfl,hb⟩;have h2:=h.trans (hb.mono h.size);exact⟨rfl,HS.out w' h2,h2⟩
     have qP:Hid (∀j,Below W.heap.size W j->Calls prog 202 #[.string (nJ N V (X k) n),.agg #[.int .u8 (K k:Int),.string (X k),.string (Y k)]] j λe w'=>e = .returned (.bool (zW (K k) (nJ N V (X k) n) (Y k)))/\(w'.cell? ⟨wr.heap.size,0,none⟩=some (.int .u8 (K k:Int))/\w'.cell? ⟨wr.heap.size,1,none⟩=some (.string (X k))/\w'.cell? ⟨wr.heap.size,2,none⟩=some (.string (Y k)))/\Below W.heap.size W w'):=λj h=>by
      refine (aaA (nJ N V (X k) n) (K k) (X k) (Y k) j (aop.out k ϣ)).mono ?_;rintro e w' ⟨rfl,hb⟩;have h2:=h.trans (hb.mono h.size);exact⟨rfl,HS.out w' h2,h2⟩
     have HW:=Ě hW;have Q5:Hid (Below W.heap.size W W):=Below.refl _ _;have ϖ:qW N V n K X Y (k+1)=(qW N V n K X Y k&&zW (K k) (nJ N V (X k) n) (Y k)):=rfl;rw[I,Bool.true_and] at ϖ;have HST:=Ě ϖ;have sJ:Hid (zW (K k) (nJ N V (X k) n) (Y k)=false->qW N V n K X Y m=false):=λh=>U0 N V n K X Y k h m ϣ
     generalize zW (K k) (nJ N V (X k) n) (Y k)=bf at *;generalize nJ N V (X k) n=vv at *;generalize K k=kk at *;generalize X k=xx at *;generalize Y k=yy at *;clear ϥ c0 c1 c2 J I hW hWb G VA ϖ;go_wp2_with fail;rw[<-HW.out];go_region_held3 (λw'=>w'.cell? ⟨wr.heap.size,0,none⟩=some (.int .u8 (kk:Int))/\w'.cell? ⟨wr.heap.size,1,none⟩=some (.string xx)/\w'.cell? ⟨wr.heap.size,2,none⟩=some (.string yy)) (go_keep) ((first|(go_at_call 203;refine Calls.mono (HVO.out _ (by first|exact Q5.out|exact Q5.out.trans ⟨rfl,rfl,rfl,le_refl _,λ_ _=>rfl⟩)) ?_;rintro e w7 ⟨rfl,⟨k0,k1,k2⟩,hc7⟩;have U:=Ě hc7;clear hc7 HVO)|(go_at_call 202;refine Calls.mono (qP.out _ (by first|exact U.out|exact U.out.trans ⟨rfl,rfl,rfl,le_refl _,λ_ _=>rfl⟩)) ?_;rintro e w8 ⟨rfl,⟨k0,k1,k2⟩,hc8⟩;have HC8:=Ě hc8;clear hc8 qP)));have R:=Ě (OH.out.trans (HC8.out.mono OH.out.size));cases bf with
     | true=>
      go_wp2;go_roundw;case rel=>exact⟨k+1,fM,rU,R.out,HST.out⟩
      case measure=>simp[intOf]<;>omega
     | false=>
      have Ø:=sJ.out rfl;have iI:=Ě Ø;clear Ø;go_wp2;go_ret2;exact⟨R.out,by rw[iI.out];rfl⟩
    ·have θ:(m:Int)<=k:=fM;have ú:k=m:=fM;have RJ:Hid (qW N V n K X Y m=true):=by rw[<-ú];exact I
     go_wp2;go_ret2;exact⟨bA.out,_,_,rfl,.inr (.inr ⟨z,H,by rw[RJ.out],rfl⟩)⟩
