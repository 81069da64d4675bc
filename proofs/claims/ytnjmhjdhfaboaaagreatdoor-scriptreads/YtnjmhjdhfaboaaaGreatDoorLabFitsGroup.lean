import Derived.Test.YtnjmhjdhfaboaaaGreatDoorLabFaultGroup
import Derived.Sort.Walk0
set_option maxRecDepth 1000000
set_option maxHeartbeats 2000000
open Nat (le_refl lt_or_ge zero_le)
open Go.Proofs.Tryz
namespace Go.Proofs.YtnjmhjdhfaboaaaGreatDoor
open Go.RowKit aD
theorem Ė{p:Prop}(h:p):Go.RowKit.Hid p:=h
theorem Pp(v y:ByteArray)(w:World):
  Calls prog 225 #[.string v,.string y] w λe w'=>e = .returned (.bool (decide (y.size<=v.size)&&((v.extract 0 y.size).toList==y.toList)))/\w'=w:=by
 have q:Hid (Calls prog 268 #[.string v,.string y] w λe w'=>e = .returned (.bool (decide (y.size<=v.size)&&((v.extract 0 y.size).toList==y.toList)))/\w'=w):=by
  show Calls _ _ _ _ _;by_cases h:y.size<=v.size
  ·have d:decide ((y.size:Int)<=v.size)=true:=rD;have D:(y.size:Int)<=v.size:=fO;have F:(0:Int)<=y.size:=fO;have o:=Ė (decide_eq_true h);go_enter func268,ntmps268;go_wp2;go_ret;exact⟨by rw[o.out];rfl,rfl⟩
  ·have d:decide ((y.size:Int)<=v.size)=false:=rD;have o:=Ė (decide_eq_false h);go_enter func268,ntmps268;go_wp2;go_ret;exact⟨by rw[o.out];rfl,rfl⟩
 go_enter func225,ntmps225;go_wp2_with fail;refine Calls.mono q.out ?_;rintro e w1 ⟨rfl,A⟩;have z:=A.symm;subst z;go_wp2;go_ret;exact⟨rfl,rfl⟩
noncomputable def JW(N V:Nat->ByteArray)(x:ByteArray)(n:Nat):ByteArray:=if iE (λi=>!((N i).toList==x.toList)) n<n then V (iE (λi=>!((N i).toList==x.toList)) n) else ⟨#[]⟩
theorem Uf(w:World)(H:Option Addr)(n c:Nat)(N V:Nat->ByteArray)(hP:vN w H n N V)(hn:n<=1000)(x:ByteArray):
  Calls prog 203 #[.slice H n c,.string x] w λe w'=>e = .returned (.string (JW N V x n))/\Below w.heap.size w w':=by
 have HP:Hid (vN w H n N V):=hP;obtain⟨g,g1,g2⟩:=jV (λi=>!((N i).toList==x.toList)) n;have Q:Hid (JW N V x n=if iE (λi=>!((N i).toList==x.toList)) n<n then V (iE (λi=>!((N i).toList==x.toList)) n) else ⟨#[]⟩):=rfl;generalize iE (λi=>!((N i).toList==x.toList)) n=m at *;have iX:=Ė g1;have K:=Ė g2;go_enter func203,ntmps203;go_wp2_with fail;go_loopw [6,9,10] (λ_ i _ wr=>∃k:Nat,k<=m/\i = .int .i64 k/\Below w.heap.size w wr) (λ_ i _ _=>n-(intOf i).toNat);case atStart=>exact⟨0,zero_le _,rfl,Below.refl _ _⟩
 case round=>
  obtain⟨k,hk,rfl,o⟩:=hrel;by_cases I:k<n
  ·obtain⟨lb,lo,rfl,Ϭ⟩:=HP.out.at k I;obtain⟨R,c1⟩:=Ϭ k I;have U:lb<w.heap.size:=World.block_lt_of_cell? w ⟨lb,_,none⟩ R;have ä:(0:Int)<=k:=fO;have ϓ:(k:Int)<n:=fO;have W:=(o.cell (p:=⟨lb,_,none⟩) U).trans R;have O:=(o.cell (p:=⟨lb,_,none⟩) U).trans c1;have z:=Ė o;have Y:=o.size;cases D:((N k).toList==x.toList) with
   | true=>
    have G:k=m:=by
     rcases lt_or_ge k m with h|h
     ·have:=iX.out k h;rw[D] at this;cases this
     ·omega
    have F:Hid (JW N V x n=V k):=by show _=_;rw[Q.out,<-G,if_pos I]
    obtain⟨Z,A⟩:=eD (N k);obtain⟨t2,q⟩:=eD (V k);rw[A] at W D;rw[q] at O F;clear A q G;go_wp2;go_ret;exact⟨by rw[F.out];rfl,z.out.alloc Y _⟩
   | false=>
    have G:k<m:=by
     rcases lt_or_ge k m with h|h
     ·exact h
     ·exfalso;have J:m=k:=fO
      have:=K.out fO;rw[J,D] at this;cases this
    obtain⟨Z,A⟩:=eD (N k);obtain⟨t2,q⟩:=eD (V k);rw[A] at W D;rw[q] at O;go_wp2;go_roundw;case rel=>exact⟨k+1,fO,by go_num,z.out.alloc Y _⟩
    case measure=>simp[intOf]<;>omega
  ·have σ:(n:Int)<=k:=fO;have F:Hid (JW N V x n=⟨#[]⟩):=by show _=_;rw[Q.out,if_neg fO]
   have z:=Ė o;go_wp2;go_ret;exact⟨by rw[F.out];rfl,z.out⟩
theorem adf(N V:Nat->ByteArray)(n:Nat)(H:∀i,i<n->jQ N V i=true):∀j,j<n->∀i,i<j->(N i).toList<(N j).toList:=by
 have step:∀j,j+1<n->(N j).toList<(N (j+1)).toList:=λj q=>by
  have h:=H (j+1) q;unfold jQ at h;rw[Bool.and_eq_true] at h;have z:=h.2;simp[Uu] at z;obtain⟨A,G⟩:=z;rw[bytesLess_eq] at A;have F:=of_decide_eq_false A;rcases Std.Trichotomous.rel_or_eq_or_rel_swap (r:=(· < · : List UInt8->List UInt8->Prop)) (a:=(N j).toList) (b:=(N (j+1)).toList) with o|o|o
  ·exact o
  ·exact absurd o.symm G
  ·exact absurd o F
 intro j;induction j with
 | zero=>intro _ i D;omega
 | succ j ih=>
  intro q i D;rcases lt_or_ge i j with h|h
  ·exact List.lt_trans (ih fO i h) (step j q)
  ·have:i=j:=fO;rw[this];exact step j q
theorem adg(N V:Nat->ByteArray)(n:Nat)(x:ByteArray)(G:∀i,i<n->jQ N V i=true):JW N V x n=nu N V x n:=by
 obtain⟨g,H,F⟩:=jV (λi=>!((N i).toList==x.toList)) n;unfold JW;generalize iE (λi=>!((N i).toList==x.toList)) n=m at *;have none:∀k,k<=m->nu N V x k=⟨#[]⟩:=λk=>by
  induction k with
  | zero=>intro _;rfl
  | succ k ih=>
   intro K;have:=H k fO;rw[nu,if_neg (by simpa using this)];exact ih fO
 by_cases o:m<n
 ·rw[if_pos o];have z:(N m).toList=x.toList:=by simpa using F o
  have A:∀k,m<k->k<=n->nu N V x k=V m:=λk=>by
   induction k with
   | zero=>intro h;omega
   | succ k ih=>
    intro J I;rw[nu];rcases lt_or_ge m k with h|h
    ·have q:=adf N V n G k fO m h;rw[if_neg ?_]
     ·exact ih h fO
     ·intro e;have D:(N k).toList=x.toList:=by simpa using e
      rw[z,D] at q;exact List.lt_irrefl _ q
    ·have:k=m:=fO;rw[this,if_pos (by simpa using z)]
  exact (A n o (le_refl _)).symm
 ·rw[if_neg o];exact (none n fO).symm
noncomputable def mC(K:Nat->Nat)(N:Nat->ByteArray)(n:Nat):Int:=if 6<n then 2 else if iE (pR K N) n<n then (if kindOk (K (iE (pR K N) n))=true then 4 else 11) else 0
noncomputable def mA(K:Nat->Nat)(N:Nat->ByteArray)(n:Nat):Int:=if 6<n then -1 else if iE (pR K N) n<n then (iE (pR K N) n:Int) else -1
theorem JX(K:Nat->Nat)(N:Nat->ByteArray)(n:Nat):0<=mC K N n/\(mC K N n=0->n<=6/\∀i,i<n->pR K N i=true):=by
 unfold mC;by_cases q:6<n
 ·rw[if_pos q];exact⟨fO,λh=>fO⟩
 ·rw[if_neg q];by_cases o:iE (pR K N) n<n
  ·rw[if_pos o];split
   ·exact⟨fO,λh=>fO⟩
   ·exact⟨fO,λh=>fO⟩
  ·rw[if_neg o];obtain⟨g,z,D⟩:=jV (pR K N) n;have A:iE (pR K N) n=n:=fO
   rw[A] at z;exact⟨fO,λ_=>⟨fO,z⟩⟩
theorem af2(w:World)(o:Option Addr)(n c:Nat)(q:6<n)(z:(n:Int)<=9223372036854775807)(a:Addr)(A:w.cell? ⟨0,0,none⟩=some (.iface 397 (.pointer (some a)))):
  Calls prog 113 #[.slice o n c] w λe w'=>e = .returned (.iface 397 (.pointer (some a)))/\w'=w:=by
 have D:decide ((6:Int)<n)=true:=rD;go_enter func113,ntmps113;go_wp2;go_ret;exact⟨rfl,rfl⟩
def akM(w w':World)(K:Nat->Nat)(m n:Nat)(aN aK:Addr)(e:Ending):Prop:=
 Below w.heap.size w w'/\((m=n/\e = .returned .nilIface)\/(m<n/\∃pb:Nat,e = .returned (.iface 72 (.pointer (some ⟨pb,0,none⟩)))/\w'.cell? ⟨pb,0,none⟩=some (.int .i64 (m:Int))/\w'.cell? ⟨pb,1,none⟩=some (.iface 397 (.pointer (some (if kindOk (K m)=true then aN else aK))))))
theorem ajh(w:World)(la:Option Addr)(n c:Nat)(K:Nat->Nat)(N V:Nat->ByteArray)(hP:qV w la n K N V)(Ϣ:∀i,i<n->(N i).size<=1000000)(hn:n<=6)(m:Nat)(hm:m<=n)(ϲ:∀i,i<m->pR K N i=true)(Ϫ:m<n->pR K N m=false)
  (R O:Addr) (Nj:w.cell? ⟨3,0,none⟩=some (.iface 397 (.pointer (some R)))) (W:w.cell? ⟨10,0,none⟩=some (.iface 397 (.pointer (some O)))) :
  Calls prog 113 #[.slice la n c] w λe w'=>akM w w' K m n R O e:=by
 have HP:Hid (qV w la n K N V):=hP;have iD:=Ė ϲ;have I:=Ė Ϫ;have jy:=Ė Ϣ;have tJ:=Ė Nj;have HEK:=Ė W;have hGN:=World.block_lt_of_cell? w ⟨3,0,none⟩ Nj;have hGK:=World.block_lt_of_cell? w ⟨10,0,none⟩ W;have hd:decide ((6:Int)<n)=false:=rD;go_enter func113,ntmps113;go_wp2_with fail;go_loopw [3,4,11] (λ_ _ i wr=>∃k:Nat,k<=m/\i = .int .i64 k/\Below w.heap.size w wr) (λ_ _ i _=>n-(intOf i).toNat);case atStart=>exact⟨0,zero_le _,rfl,Below.refl _ _⟩
 case round=>
  obtain⟨k,hk,rfl,q⟩:=hrel;by_cases U:k<n
  ·obtain⟨lb,lo,rfl,Ϭ⟩:=HP.out.at k U;obtain⟨c0,c1,c2,aeQ⟩:=Ϭ k U;have Ë:lb<w.heap.size:=World.block_lt_of_cell? w ⟨lb,_,none⟩ c0;have ä:(0:Int)<=k:=fO;have ϓ:(k:Int)<n:=fO;have e0:=(q.cell (p:=⟨lb,_,none⟩) Ë).trans c0;have e1:=(q.cell (p:=⟨lb,_,none⟩) Ë).trans c1;have e2:=(q.cell (p:=⟨lb,_,none⟩) Ë).trans c2;have Q:=Ė q;have Ï:=q.size;have gN:=(q.cell (p:=⟨3,0,none⟩) hGN).trans tJ.out;have gK:=(q.cell (p:=⟨10,0,none⟩) hGK).trans HEK.out;have hG1:3<wr.heap.size:=fO;have hG7:10<wr.heap.size:=fO;have ϻ:=λw0=>Ig (N k) w0 (jy.out k U)
   have ÿ:pR K N k=(kindOk (K k)&&isName (N k)):=rfl;obtain⟨bn,ŏ⟩:=eD (isName (N k));rw[ŏ] at ϻ ÿ;have mD:=Ė ϻ;have Z:=Ė ÿ;obtain⟨o,í⟩:=eD (K k);rw[í] at e0 aeQ Z;have Y:=Ė í;have Qq:Hid (kindOk o=decide (o=61\/o=33\/o=126)):=rfl;obtain⟨t1,Ĥ⟩:=eD (N k);obtain⟨t2,ο⟩:=eD (V k);rw[Ĥ] at e1 mD;rw[ο] at e2;cases z:kindOk o with
   | false=>
    have G:k=m:=by
     rcases lt_or_ge k m with h|h
     ·have:=iD.out k h;rw[Z.out,z] at this;cases this
     ·omega
    subst G;have sj:Hid ((if kindOk (K k)=true then R else O)=O):=by show _=_;rw[Y.out,z];rfl
    have Â:¬ (o=61\/o=33\/o=126):=by rw[Qq.out] at z;exact of_decide_eq_false z
    have A:((o:Int) != 61)=true:=by rw[bne_iff_ne];omega
    have H:((o:Int) != 33)=true:=by rw[bne_iff_ne];omega
    have d3:((o:Int) != 126)=true:=by rw[bne_iff_ne];omega
    go_wp2;go_ret;exact⟨(Q.out.alloc Ï _).alloc rD _,.inr ⟨U,wr.heap.size+1,vI,(oC vI 0).trans vI,(oC vI 1).trans (by rw[sj.out];simp)⟩⟩
   | true=>
    have Ŝ:o=61\/o=33\/o=126:=by rw[Qq.out] at z;exact of_decide_eq_true z
    have J:=Ė z;have D:∀(P:Prop),(∀A H d3:Bool,((o:Int) != 61)=A->((o:Int) != 33)=H->((o:Int) != 126)=d3->(A=false\/(A=true/\H=false)\/(A=true/\H=true/\d3=false))->P)->P:=λP h=>by
     refine h _ _ _ rfl rfl rfl ?_;rcases Ŝ with rfl|rfl|rfl
     ·exact .inl rfl
     ·exact .inr (.inl ⟨rfl,rfl⟩)
     ·exact .inr (.inr ⟨rfl,rfl,rfl⟩)
    refine D _ ?_;intro A H d3 q1 q2 q3 F;clear Ŝ D;cases bn with
    | false=>
     have G:k=m:=by
      rcases lt_or_ge k m with h|h
      ·have:=iD.out k h;rw[Z.out,Bool.and_false] at this;cases this
      ·omega
     subst G;have sj:Hid ((if kindOk (K k)=true then R else O)=R):=by show _=_;rw[Y.out,J.out];rfl
     rcases F with h|⟨h,h'⟩|⟨h,h',h''⟩<;>subst_vars<;>
     ·go_wp2_with fail;refine Calls.mono (mD.out _) ?_;rintro e w1 ⟨rfl,ϙ⟩;have bF:=ϙ;subst bF;go_wp2;go_ret;exact⟨(Q.out.alloc Ï _).alloc rD _,.inr ⟨U,wr.heap.size+1,vI,(oC vI 0).trans vI,(oC vI 1).trans (by rw[sj.out];simp)⟩⟩
    | true=>
     have G:k<m:=by
      rcases lt_or_ge k m with h|h
      ·exact h
      ·exfalso;have hme:m=k:=fO
       have:=I.out fO;rw[hme,Z.out,J.out] at this;cases this
     rcases F with h|⟨h,h'⟩|⟨h,h',h''⟩<;>subst_vars<;>
     ·go_wp2_with fail;refine Calls.mono (mD.out _) ?_;rintro e w1 ⟨rfl,ϙ⟩;have bF:=ϙ;subst bF;go_wp2;go_roundw;case rel=>exact⟨k+1,fO,by go_num,Q.out.alloc Ï _⟩
      case measure=>simp[intOf]<;>omega
  ·have G:k=m:=fO;have Ý:m=n:=fO;have Q:=Ė q;go_wp2;go_ret;exact⟨Q.out,.inl ⟨Ý,rfl⟩⟩
theorem adi{B:Nat}{ea:Nat->Addr}(w:World)(E:Ce B ea w)(z:Option Addr)(n c:Nat)(K:Nat->Nat)(N V:Nat->ByteArray)(O:qV w z n K N V)(Q:∀i,i<n->(N i).size<=1000000)(I:(n:Int)<=9223372036854775807):
  Calls prog 113 #[.slice z n c] w λe w'=>∃v,e = .returned v/\Below w.heap.size w w'/\aL ea w' v (mC K N n) (mA K N n):=by
 by_cases o:6<n
 ·refine (af2 w z n c o I (ea 1) E.c1).mono ?_;rintro e w' ⟨rfl,rfl⟩;exact⟨_,rfl,Below.refl _ _,.inr (.inl ⟨1,fO,rfl,by unfold mC;rw[if_pos o];rfl,by unfold mA;rw[if_pos o]⟩)⟩
 ·obtain⟨g,R,J⟩:=jV (pR K N) n;refine (ajh w z n c K N V O Q fO _ g R J (ea 3) (ea 10) E.c3 E.c10).mono ?_;rintro e w' ⟨F,⟨A,rfl⟩|⟨A,G,rfl,D,q⟩⟩
  ·exact⟨_,rfl,F,.inl ⟨rfl,by unfold mC;rw[if_neg o,if_neg fO]⟩⟩
  ·refine⟨_,rfl,F,.inr (.inr ?_)⟩;unfold mC mA;rw[if_neg o,if_pos A,if_neg o,if_pos A];by_cases H:kindOk (K (iE (pR K N) n))=true
   ·rw[if_pos H] at q ⊢;exact⟨G,3,fO,rfl,D,q,rfl⟩
   ·rw[if_neg H] at q ⊢;exact⟨G,10,fO,rfl,D,q,rfl⟩
theorem aaD(v:ByteArray)(k:Nat)(x y:ByteArray)(w:World)(H:kindOk k=true):
  Calls prog 202 #[.string v,.agg #[.int .u8 (k:Int),.string x,.string y]] w λe w'=>e = .returned (.bool (zW k v y))/\Below w.heap.size w w':=by
 have A:=of_decide_eq_true H;have q:Hid (Below w.heap.size w (w.alloc (.cells #[.int .u8 (k:Int),.string x,.string y] 149))):=(Below.refl _ _).alloc (le_refl _) _;have z:Hid _:=λF=>Pp v y F
 rcases A with rfl|rfl|rfl
 ·have o:Hid (zW 61 v y=(v.toList==y.toList)):=rfl;go_enter func202,ntmps202;go_wp2;go_ret;exact⟨by rw[o.out];rfl,q.out⟩
 ·have o:Hid (zW 33 v y = !(v.toList==y.toList)):=rfl;go_enter func202,ntmps202;go_wp2;go_ret;exact⟨by rw[o.out];rfl,q.out⟩
 ·have o:Hid (zW 126 v y=(decide (y.size<=v.size)&&((v.extract 0 y.size).toList==y.toList))):=rfl;go_enter func202,ntmps202;go_wp2_with fail;refine Calls.mono (z.out _) ?_;rintro e w1 ⟨rfl,G⟩;have D:=G;subst D;go_wp2;go_ret;exact⟨by rw[o.out];rfl,q.out⟩
def JY(ea:Nat->Addr)(w w':World)(N V:Nat->ByteArray)(n:Nat)(K:Nat->Nat)(X Y:Nat->ByteArray)(m:Nat)(e:Ending):Prop:=
 Below w.heap.size w w'/\∃(b:Bool) (v:Value),e = .returned (.tuple #[.bool b,v]) /\
  ((0<fC N V n/\b=false/\aL ea w' v (fC N V n) (fA N V n))\/(fC N V n=0/\0<mC K X m/\b=false/\aL ea w' v (mC K X m) (mA K X m))\/(fC N V n=0/\mC K X m=0/\b=qW N V n K X Y m/\v = .nilIface))
theorem aL.some{ea:Nat->Addr}{w:World}{v:Value}{C A:Int}(h:aL ea w v C A)(o:0<C):(∃q,v = .iface 397 (.pointer (some q)))\/∃q,v = .iface 72 (.pointer (some q)):=by
 rcases h with⟨_,h⟩|⟨m,_,h,_⟩|⟨pb,m,_,h,_⟩
 ·omega
 ·exact .inl ⟨_,h⟩
 ·exact .inr ⟨_,h⟩
theorem af3{B:Nat}{ea:Nat->Addr}(w:World)(E:Ce B ea w)(hB:B<=w.heap.size)(O lm:Option Addr)(n c m cm:Nat)(N V:Nat->ByteArray)(K:Nat->Nat)(X Y:Nat->ByteArray)(hL:vN w O n N V)(hM:qV w lm m K X Y)
  (Ϣ:∀i,i<n->(N i).size<=1000000/\(V i).size<=1000000) (hsx:∀i,i<m->(X i).size<=1000000) (hn:(n:Int)<=9223372036854775807) (hm:(m:Int)<=9223372036854775807) :
  Calls prog 160 #[.slice O n c,.slice lm m cm] w λe w'=>JY ea w w' N V n K X Y m e:=by
 have wN:Hid _:=ab6 w E O n c N V hL Ϣ hn;have HL:Hid (vN w O n N V):=hL;have HM:Hid (qV w lm m K X Y):=hM;have hC0:=(Ag N V n).1;have HCZ:=Ė ((Ag N V n).2);have hM0:=(JX K X m).1;have HMZ:=Ė ((JX K X m).2);have YN:=(show Hid _ from λ(z:World) (h0:Below w.heap.size w z)=>adi z (E.below h0 hB) lm m cm K X Y (by
  rcases hM with h|⟨b,o,h,hc⟩
  ·exact .inl h
  ·refine .inr ⟨b,o,h,λk hk=>?_⟩;obtain⟨q0,q1,q2,q3⟩:=hc k hk;have hl:b<w.heap.size:=World.block_lt_of_cell? w ⟨b,_,none⟩ q0;exact⟨(h0.cell (p:=⟨b,_,none⟩) hl).trans q0,(h0.cell (p:=⟨b,_,none⟩) hl).trans q1,(h0.cell (p:=⟨b,_,none⟩) hl).trans q2,q3⟩) hsx hm)
 unfold JY;obtain⟨C,hC⟩:=eD (fC N V n);obtain⟨A,hA⟩:=eD (fA N V n);obtain⟨C2,hC2⟩:=eD (mC K X m);obtain⟨A2,μ⟩:=eD (mA K X m);rw[hC] at wN hC0 HCZ ⊢;rw[hA] at wN ⊢;rw[hC2] at YN hM0 HMZ ⊢;rw[μ] at YN ⊢;go_enter func160,ntmps160;go_wp2_with fail;refine Calls.mono wN.out ?_;rintro e w1 ⟨v,rfl,ώ,D⟩;have J:=Ė ώ;have qI:=Ė D;by_cases hCp:0<C
 ·rcases D.some hCp with⟨q,rfl⟩|⟨q,rfl⟩<;>
  ·clear ώ D;go_wp2;go_ret2;exact⟨J.out,_,_,rfl,.inl ⟨hCp,rfl,qI.out⟩⟩
 ·have F:C=0:=fO;have hv:=D.none F;subst hv;have C8:=Ė (YN.out w1 ώ);go_wp2_with fail;refine Calls.mono C8.out ?_;rintro e w2 ⟨v,rfl,ϒ,D⟩;have R:=Ė (J.out.trans (ϒ.mono J.out.size));have qI:=Ė D;by_cases hMp:0<C2
  ·rcases D.some hMp with⟨q,rfl⟩|⟨q,rfl⟩<;>
   ·clear ϒ D;go_wp2;go_ret2;exact⟨R.out,_,_,rfl,.inr (.inl ⟨F,hMp,rfl,qI.out⟩)⟩
  ·have G:C2=0:=fO;have hv:=D.none G;subst hv;have hz:=HCZ.out F;have hy:=HMZ.out G;have HVS:Hid (∀x,JW N V x n=nu N V x n):=λx=>adg N V n x hz.2.2.2
   have aon:Hid (∀i,i<m->kindOk (K i)=true):=λi hi=>by
    have:=hy.2 i hi;unfold pR at this;rw[Bool.and_eq_true] at this;exact this.1
   have hn6:=hz.2.1;have hm6:=hy.1;go_wp2_with fail;go_loopw [9,22,23] (λ_ i _ wr=>∃k:Nat,k<=m/\i = .int .i64 k/\Below w.heap.size w wr/\qW N V n K X Y k=true) (λ_ i _ _=>m-(intOf i).toNat);case atStart=>exact⟨0,zero_le _,rfl,R.out,rfl⟩
   case round=>
    obtain⟨k,hk,rfl,H,Ω⟩:=hrel;have bq:=Ė H;have Ï:=H.size;by_cases ϥ:k<m
    ·obtain⟨lb,lo,rfl,Ϭ⟩:=HM.out.at k ϥ;obtain⟨c0,c1,c2,aeQ⟩:=Ϭ k ϥ;have Ë:lb<w.heap.size:=World.block_lt_of_cell? w ⟨lb,_,none⟩ c0;have ä:(0:Int)<=k:=fO;have ϓ:(k:Int)<m:=fO;have e0:=(H.cell (p:=⟨lb,_,none⟩) Ë).trans c0;have e1:=(H.cell (p:=⟨lb,_,none⟩) Ë).trans c1;have e2:=(H.cell (p:=⟨lb,_,none⟩) Ë).trans c2;obtain⟨W,Z⟩:=bE (wr.alloc (.cells #[.int .u8 (K k:Int),.string (X k),.string (Y k)] 149));have Q:Below wr.heap.size wr W:=by rw[Z];exact (Below.refl _ _).alloc (le_refl _) _
     have I:W.heap[wr.heap.size]? = some (.cells #[.int .u8 (K k:Int),.string (X k),.string (Y k)] 149 (0,0)):=by rw[Z];exact heap_alloc_new _ _
     have Vj:wr.heap.size<W.heap.size:=by rw[Z];simp
     have OP:=Ė (H.trans (Q.mono Ï));have k0:W.cell? ⟨wr.heap.size,0,none⟩=some (.int .u8 (K k:Int)):=by simp[World.cell?,I]
     have k1:W.cell? ⟨wr.heap.size,1,none⟩=some (.string (X k)):=by simp[World.cell?,I]
     have k2:W.cell? ⟨wr.heap.size,2,none⟩=some (.string (Y k)):=by simp[World.cell?,I]
     have HS:Hid (∀z,Below W.heap.size W z->z.cell? ⟨wr.heap.size,0,none⟩=some (.int .u8 (K k:Int))/\z.cell? ⟨wr.heap.size,1,none⟩=some (.string (X k))/\z.cell? ⟨wr.heap.size,2,none⟩=some (.string (Y k))):=λz h=>⟨(h.cell (p:=⟨wr.heap.size,0,none⟩) Vj).trans (by simp[World.cell?,I]),(h.cell (p:=⟨wr.heap.size,1,none⟩) Vj).trans (by simp[World.cell?,I]),(h.cell (p:=⟨wr.heap.size,2,none⟩) Vj).trans (by simp[World.cell?,I])⟩
     have U:Hid (∀z,Below W.heap.size W z->Calls prog 203 #[.slice O n c,.string (X k)] z λe w'=>e = .returned (.string (nu N V (X k) n))/\(w'.cell? ⟨wr.heap.size,0,none⟩=some (.int .u8 (K k:Int))/\w'.cell? ⟨wr.heap.size,1,none⟩=some (.string (X k))/\w'.cell? ⟨wr.heap.size,2,none⟩=some (.string (Y k)))/\Below W.heap.size W w'):=λz h=>by
      have hw0:=OP.out.trans (h.mono OP.out.size);have hc:=Uf z O n c N V (HL.out.below hw0) fO (X k);rw[HVS.out] at hc;refine hc.mono ?_;rintro e w' ⟨rfl,hb⟩;have h2:=h.trans (hb.mono h.size);exact⟨rfl,HS.out w' h2,h2⟩
     have sK:Hid (∀z,Below W.heap.size W z->Calls prog 202 #[.string (nu N V (X k) n),.agg #[.int .u8 (K k:Int),.string (X k),.string (Y k)]] z λe w'=>e = .returned (.bool (zW (K k) (nu N V (X k) n) (Y k)))/\(w'.cell? ⟨wr.heap.size,0,none⟩=some (.int .u8 (K k:Int))/\w'.cell? ⟨wr.heap.size,1,none⟩=some (.string (X k))/\w'.cell? ⟨wr.heap.size,2,none⟩=some (.string (Y k)))/\Below W.heap.size W w'):=λz h=>by
      refine (aaD (nu N V (X k) n) (K k) (X k) (Y k) z (aon.out k ϥ)).mono ?_;rintro e w' ⟨rfl,hb⟩;have h2:=h.trans (hb.mono h.size);exact⟨rfl,HS.out w' h2,h2⟩
     have HW:=Ė Z;have QN:Hid (Below W.heap.size W W):=Below.refl _ _;have ϖ:qW N V n K X Y (k+1)=(qW N V n K X Y k&&zW (K k) (nu N V (X k) n) (Y k)):=rfl;rw[Ω,Bool.true_and] at ϖ;have HST:=Ė ϖ;have wM:Hid (zW (K k) (nu N V (X k) n) (Y k)=false->qW N V n K X Y m=false):=λh=>Uw N V n K X Y k h m ϥ
     generalize zW (K k) (nu N V (X k) n) (Y k)=bf at *;generalize nu N V (X k) n=vv at *;generalize K k=kk at *;generalize X k=xx at *;generalize Y k=yy at *;clear Ϭ c0 c1 c2 H Ω Z Q I Vj ϖ;go_wp2_with fail;rw[<-HW.out];go_region_held3 (λw'=>w'.cell? ⟨wr.heap.size,0,none⟩=some (.int .u8 (kk:Int))/\w'.cell? ⟨wr.heap.size,1,none⟩=some (.string xx)/\w'.cell? ⟨wr.heap.size,2,none⟩=some (.string yy)) (go_keep) ((first|(go_at_call 203;refine Calls.mono (U.out _ (by first|exact QN.out|exact QN.out.trans ⟨rfl,rfl,rfl,le_refl _,λ_ _=>rfl⟩)) ?_;rintro e w7 ⟨rfl,⟨k0,k1,k2⟩,hc7⟩;have HC7:=Ė hc7;clear hc7 U)|(go_at_call 202;refine Calls.mono (sK.out _ (by first|exact HC7.out|exact HC7.out.trans ⟨rfl,rfl,rfl,le_refl _,λ_ _=>rfl⟩)) ?_;rintro e w8 ⟨rfl,⟨k0,k1,k2⟩,hc8⟩;have HC8:=Ė hc8;clear hc8 sK)));have HB8:=Ė (OP.out.trans (HC8.out.mono OP.out.size));cases bf with
     | true=>
      go_wp2;go_roundw;case rel=>exact⟨k+1,fO,by go_num,HB8.out,HST.out⟩
      case measure=>simp[intOf]<;>omega
     | false=>
      have Â:=wM.out rfl;have iH:=Ė Â;clear Â;go_wp2;go_ret2;exact⟨HB8.out,by rw[iH.out];rfl⟩
    ·have σ:(m:Int)<=k:=fO;have ý:k=m:=fO;have HFM:Hid (qW N V n K X Y m=true):=by rw[<-ý];exact Ω
     go_wp2;go_ret2;exact⟨bq.out,_,_,rfl,.inr (.inr ⟨F,G,by rw[HFM.out],rfl⟩)⟩
end Go.Proofs.YtnjmhjdhfaboaaaGreatDoor
