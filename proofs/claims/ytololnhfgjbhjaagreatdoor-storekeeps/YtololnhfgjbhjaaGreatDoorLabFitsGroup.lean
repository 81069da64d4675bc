import Derived.Test.YtololnhfgjbhjaaGreatDoorLabFaultGroup
import Derived.Sort.Walk0
set_option maxRecDepth 1000000
set_option maxHeartbeats 2000000
open Go.Proofs.Tryz
namespace Go.Proofs.YtololnhfgjbhjaaGreatDoor
open Go.RowKit aG
theorem ĥ{p:Prop}(h:p):Go.RowKit.Hid p:=h
theorem NZ(v y:ByteArray)(w:World):
  Calls prog 127 #[.string v,.string y] w λe w'=>e = .returned (.bool (decide (y.size<=v.size)&&((v.extract 0 y.size).toList==y.toList)))/\w'=w:=by
 have HI:Hid (Calls prog 166 #[.string v,.string y] w λe w'=>e = .returned (.bool (decide (y.size<=v.size)&&((v.extract 0 y.size).toList==y.toList)))/\w'=w):=by
  show Calls _ _ _ _ _;by_cases h:y.size<=v.size
  ·have d:decide ((y.size:Int)<=(v.size:Int))=true:=by simp;omega
   have dI:(y.size:Int)<=(v.size:Int):=by omega
   have d0:(0:Int)<=(y.size:Int):=by omega
   have HD:Hid (decide (y.size<=v.size)=true):=decide_eq_true h;go_enter func166,ntmps166;go_wp2;go_ret;exact⟨by rw[HD.out];rfl,rfl⟩
  ·have d:decide ((y.size:Int)<=(v.size:Int))=false:=by simp;omega
   have HD:Hid (decide (y.size<=v.size)=false):=decide_eq_false h;go_enter func166,ntmps166;go_wp2;go_ret;exact⟨by rw[HD.out];rfl,rfl⟩
 go_enter func127,ntmps127;go_wp2_with fail;refine Calls.mono HI.out ?_;rintro e w1 ⟨rfl,ϝ⟩;have bK:=ϝ.symm;subst bK;go_wp2;go_ret;exact⟨rfl,rfl⟩
noncomputable def Jo(N V:Nat->ByteArray)(x:ByteArray)(n:Nat):ByteArray:=if ji (λi=>!((N i).toList==x.toList)) n<n then V (ji (λi=>!((N i).toList==x.toList)) n) else ⟨#[]⟩
theorem Sg(w:World)(la:Option Addr)(n c:Nat)(N V:Nat->ByteArray)(hP:vg w la n N V)(hn:n<=1000)(x:ByteArray):
  Calls prog 97 #[.slice la n c,.string x] w λe w'=>e = .returned (.string (Jo N V x n))/\Below w.heap.size w w':=by
 have HP:Hid (vg w la n N V):=hP;obtain⟨g,g1,g2⟩:=ku (λi=>!((N i).toList==x.toList)) n;have HV:Hid (Jo N V x n=if ji (λi=>!((N i).toList==x.toList)) n<n then V (ji (λi=>!((N i).toList==x.toList)) n) else ⟨#[]⟩):=rfl;generalize ji (λi=>!((N i).toList==x.toList)) n=m at *;have iU:=ĥ g1;have HG2:=ĥ g2;clear hP g1 g2;go_enter func97,ntmps97;go_wp2_with fail;go_loopw [6,9,10] (λ_ i _ wr=>∃k:Nat,k<=m/\i = .int .i64 k/\Below w.heap.size w wr) (λ_ i _ _=>n-(intOf i).toNat);case atStart=>exact⟨0,Nat.zero_le _,rfl,Below.refl _ _⟩
 case round=>
  obtain⟨k,hk,rfl,ϛ⟩:=hrel;by_cases Ϧ:k<n
  ·obtain⟨lb,lo,rfl,Ϥ⟩:=HP.out.at k Ϧ;obtain⟨c0,c1⟩:=Ϥ k Ϧ;have Ú:lb<w.heap.size:=World.block_lt_of_cell? w ⟨lb,_,none⟩ c0;have è:(0:Int)<=(k:Int):=by omega
   have ϒ:(k:Int)<(n:Int):=by omega
   have e0:wr.cell? ⟨lb,lo+k*2,none⟩=some (.string (N k)):=(ϛ.cell (p:=⟨lb,_,none⟩) Ú).trans c0;have e1:wr.cell? ⟨lb,lo+k*2+1,none⟩=some (.string (V k)):=(ϛ.cell (p:=⟨lb,_,none⟩) Ú).trans c1;have bH:=ĥ ϛ;have Ó:=ϛ.size;clear Ϥ c0 c1 ϛ;cases hq:((N k).toList==x.toList) with
   | true=>
    have Ď:k=m:=by
     rcases Nat.lt_or_ge k m with h|h
     ·have:=iU.out k h;rw[hq] at this;cases this
     ·omega
    have HR:Hid (Jo N V x n=V k):=by show _=_;rw[HV.out,<-Ď,if_pos Ϧ]
    clear HV iU HG2;obtain⟨t1,ó⟩:∃t1,N k=t1:=⟨_,rfl⟩;obtain⟨t2,Ĺ⟩:∃t2,V k=t2:=⟨_,rfl⟩;rw[ó] at e0 hq;rw[Ĺ] at e1 HR;clear ó Ĺ Ď;go_wp2;go_ret;exact⟨by rw[HR.out];rfl,bH.out.alloc Ó _⟩
   | false=>
    have Ď:k<m:=by
     rcases Nat.lt_or_ge k m with h|h
     ·exact h
     ·exfalso;have hme:m=k:=by omega
      have:=HG2.out (by omega);rw[hme,hq] at this;cases this
    obtain⟨t1,ó⟩:∃t1,N k=t1:=⟨_,rfl⟩;obtain⟨t2,Ĺ⟩:∃t2,V k=t2:=⟨_,rfl⟩;rw[ó] at e0 hq;rw[Ĺ] at e1;clear ó Ĺ;go_wp2;go_roundw;case rel=>exact⟨k+1,by omega,by go_num,bH.out.alloc Ó _⟩
    case measure=>simp[intOf]<;>omega
  ·have ņ:(n:Int)<=(k:Int):=by omega
   have HR:Hid (Jo N V x n=⟨#[]⟩):=by show _=_;rw[HV.out,if_neg (by omega)]
   have bH:=ĥ ϛ;clear ϛ HV;go_wp2;go_ret;exact⟨by rw[HR.out];rfl,bH.out⟩
theorem aa3(N V:Nat->ByteArray)(n:Nat)(ϴ:∀i,i<n->kZ N V i=true):∀j,j<n->∀i,i<j->(N i).toList<(N j).toList:=by
 have step:∀j,j+1<n->(N j).toList<(N (j+1)).toList:=λj hj=>by
  have h:=ϴ (j+1) hj;unfold kZ at h;rw[Bool.and_eq_true] at h;have h2:=h.2;simp[Sy] at h2;obtain⟨h3,h4⟩:=h2;rw[bytesLess_eq] at h3;have h5:¬ (N (j+1)).toList<(N j).toList:=of_decide_eq_false h3;rcases Std.Trichotomous.rel_or_eq_or_rel_swap (r:=(· < · : List UInt8->List UInt8->Prop)) (a:=(N j).toList) (b:=(N (j+1)).toList) with h6|h6|h6
  ·exact h6
  ·exact absurd h6.symm h4
  ·exact absurd h6 h5
 intro j;induction j with
 | zero=>intro _ i hi;omega
 | succ j ih=>
  intro hj i hi;rcases Nat.lt_or_ge i j with h|h
  ·exact List.lt_trans (ih (by omega) i h) (step j hj)
  ·have:i=j:=by omega
   rw[this];exact step j hj
theorem aa4(N V:Nat->ByteArray)(n:Nat)(x:ByteArray)(ϴ:∀i,i<n->kZ N V i=true):Jo N V x n=nK N V x n:=by
 obtain⟨g,g1,g2⟩:=ku (λi=>!((N i).toList==x.toList)) n;unfold Jo;generalize ji (λi=>!((N i).toList==x.toList)) n=m at *;have none:∀k,k<=m->nK N V x k=⟨#[]⟩:=λk=>by
  induction k with
  | zero=>intro _;rfl
  | succ k ih=>
   intro hk;have:=g1 k (by omega);rw[nK,if_neg (by simpa using this)];exact ih (by omega)
 by_cases Û:m<n
 ·rw[if_pos Û];have hm:(N m).toList=x.toList:=by simpa using g2 Û
  have up:∀k,m<k->k<=n->nK N V x k=V m:=λk=>by
   induction k with
   | zero=>intro h;omega
   | succ k ih=>
    intro h1 h2;rw[nK];rcases Nat.lt_or_ge m k with h|h
    ·have hl:=aa3 N V n ϴ k (by omega) m h;rw[if_neg ?_]
     ·exact ih h (by omega)
     ·intro e;have e':(N k).toList=x.toList:=by simpa using e
      rw[hm,e'] at hl;exact List.lt_irrefl _ hl
    ·have:k=m:=by omega
     rw[this,if_pos (by simpa using hm)]
  exact (up n Û (Nat.le_refl _)).symm
 ·rw[if_neg Û];exact (none n (by omega)).symm
noncomputable def mC(K:Nat->Nat)(N:Nat->ByteArray)(n:Nat):Int:=if 6<n then 2 else if ji (qC K N) n<n then (if kindOk (K (ji (qC K N) n))=true then 4 else 11) else 0
noncomputable def mA(K:Nat->Nat)(N:Nat->ByteArray)(n:Nat):Int:=if 6<n then -1 else if ji (qC K N) n<n then (ji (qC K N) n:Int) else -1
theorem Qi(K:Nat->Nat)(N:Nat->ByteArray)(n:Nat):0<=mC K N n/\(mC K N n=0->n<=6/\∀i,i<n->qC K N i=true):=by
 unfold mC;by_cases h6:6<n
 ·rw[if_pos h6];exact⟨by omega,λh=>by omega⟩
 ·rw[if_neg h6];by_cases hb:ji (qC K N) n<n
  ·rw[if_pos hb];split
   ·exact⟨by omega,λh=>by omega⟩
   ·exact⟨by omega,λh=>by omega⟩
  ·rw[if_neg hb];obtain⟨g,g1,g2⟩:=ku (qC K N) n;have Ŏ:ji (qC K N) n=n:=by omega
   rw[Ŏ] at g1;exact⟨by omega,λ_=>⟨by omega,g1⟩⟩
theorem aee(w:World)(la:Option Addr)(n c:Nat)(hn:6<n)(ę:(n:Int)<=9223372036854775807)(a:Addr)(hE:w.cell? ⟨0,0,none⟩=some (.iface 352 (.pointer (some a)))):
  Calls prog 31 #[.slice la n c] w λe w'=>e = .returned (.iface 352 (.pointer (some a)))/\w'=w:=by
 have hd:decide ((6:Int)<(n:Int))=true:=by simp;omega
 go_enter func31,ntmps31;go_wp2;go_ret;exact⟨rfl,rfl⟩
def ai9(w w':World)(K:Nat->Nat)(m n:Nat)(aN aK:Addr)(e:Ending):Prop:=
 Below w.heap.size w w'/\((m=n/\e = .returned .nilIface)\/(m<n/\∃pb:Nat,e = .returned (.iface 126 (.pointer (some ⟨pb,0,none⟩)))/\w'.cell? ⟨pb,0,none⟩=some (.int .i64 (m:Int))/\w'.cell? ⟨pb,1,none⟩=some (.iface 352 (.pointer (some (if kindOk (K m)=true then aN else aK))))))
theorem agS(w:World)(la:Option Addr)(n c:Nat)(K:Nat->Nat)(N V:Nat->ByteArray)(hP:qM w la n K N V)(ϟ:∀i,i<n->(N i).size<=1000000)(hn:n<=6)(m:Nat)(hm:m<=n)(ϴ:∀i,i<m->qC K N i=true)(Ϣ:m<n->qC K N m=false)
  (aN aK:Addr) (EX:w.cell? ⟨6,0,none⟩=some (.iface 352 (.pointer (some aN)))) (hEK:w.cell? ⟨5,0,none⟩=some (.iface 352 (.pointer (some aK)))) :
  Calls prog 31 #[.slice la n c] w λe w'=>ai9 w w' K m n aN aK e:=by
 have HP:Hid (qM w la n K N V):=hP;have iJ:=ĥ ϴ;have HBAD:=ĥ Ϣ;have eH:=ĥ ϟ;have uG:=ĥ EX;have HEK:=ĥ hEK;have hGN:6<w.heap.size:=World.block_lt_of_cell? w ⟨6,0,none⟩ EX;have hGK:5<w.heap.size:=World.block_lt_of_cell? w ⟨5,0,none⟩ hEK;have hd:decide ((6:Int)<(n:Int))=false:=by simp;omega
 clear hP ϴ Ϣ EX hEK ϟ;go_enter func31,ntmps31;go_wp2_with fail;go_loopw [3,4,11] (λ_ _ i wr=>∃k:Nat,k<=m/\i = .int .i64 k/\Below w.heap.size w wr) (λ_ _ i _=>n-(intOf i).toNat);case atStart=>exact⟨0,Nat.zero_le _,rfl,Below.refl _ _⟩
 case round=>
  obtain⟨k,hk,rfl,ϛ⟩:=hrel;by_cases Ϧ:k<n
  ·obtain⟨lb,lo,rfl,Ϥ⟩:=HP.out.at k Ϧ;obtain⟨c0,c1,c2,acT⟩:=Ϥ k Ϧ;have Ú:lb<w.heap.size:=World.block_lt_of_cell? w ⟨lb,_,none⟩ c0;have è:(0:Int)<=(k:Int):=by omega
   have ϒ:(k:Int)<(n:Int):=by omega
   have e0:wr.cell? ⟨lb,lo+k*3,none⟩=some (.int .u8 (K k:Int)):=(ϛ.cell (p:=⟨lb,_,none⟩) Ú).trans c0;have e1:wr.cell? ⟨lb,lo+k*3+1,none⟩=some (.string (N k)):=(ϛ.cell (p:=⟨lb,_,none⟩) Ú).trans c1;have e2:wr.cell? ⟨lb,lo+k*3+2,none⟩=some (.string (V k)):=(ϛ.cell (p:=⟨lb,_,none⟩) Ú).trans c2;have bH:=ĥ ϛ;have Ó:=ϛ.size;have gN:wr.cell? ⟨6,0,none⟩=some (.iface 352 (.pointer (some aN))):=(ϛ.cell (p:=⟨6,0,none⟩) hGN).trans uG.out;have gK:wr.cell? ⟨5,0,none⟩=some (.iface 352 (.pointer (some aK))):=(ϛ.cell (p:=⟨5,0,none⟩) hGK).trans HEK.out;have hG1:6<wr.heap.size:=by omega
   have hG7:5<wr.heap.size:=by omega
   have Ï:=λw0=>Ho (N k) w0 (eH.out k Ϧ)
   have õ:qC K N k=(kindOk (K k)&&isName (N k)):=rfl;obtain⟨bn,Ŏ⟩:∃bn,isName (N k)=bn:=⟨_,rfl⟩;rw[Ŏ] at Ï õ;have qB:=ĥ Ï;have l5:=ĥ õ;clear Ï õ Ŏ ϛ c0 c1 c2 Ϥ;obtain⟨kk,Ŋ⟩:∃kk,K k=kk:=⟨_,rfl⟩;rw[Ŋ] at e0 acT l5;have HKK:=ĥ Ŋ;have JY:Hid (kindOk kk=decide (kk=61\/kk=33\/kk=126)):=rfl;clear Ŋ;obtain⟨t1,ó⟩:∃t1,N k=t1:=⟨_,rfl⟩;obtain⟨t2,Ĺ⟩:∃t2,V k=t2:=⟨_,rfl⟩;rw[ó] at e1 qB;rw[Ĺ] at e2;clear ó Ĺ;cases ĵ:kindOk kk with
   | false=>
    have Ď:k=m:=by
     rcases Nat.lt_or_ge k m with h|h
     ·have:=iJ.out k h;rw[l5.out,ĵ] at this;cases this
     ·omega
    subst Ď;have rY:Hid ((if kindOk (K k)=true then aN else aK)=aK):=by show _=_;rw[HKK.out,ĵ];rfl
    have Ă:¬ (kk=61\/kk=33\/kk=126):=by rw[JY.out] at ĵ;exact of_decide_eq_false ĵ
    have d1:((kk:Int) != 61)=true:=by rw[bne_iff_ne];omega
    have d2:((kk:Int) != 33)=true:=by rw[bne_iff_ne];omega
    have d3:((kk:Int) != 126)=true:=by rw[bne_iff_ne];omega
    clear ĵ Ă;go_wp2;go_ret;exact⟨(bH.out.alloc Ó _).alloc (by simp;omega) _,.inr ⟨Ϧ,wr.heap.size+1,by simp,(nX (by simp) 0).trans (by simp),(nX (by simp) 1).trans (by rw[rY.out];simp)⟩⟩
   | true=>
    have ſ:kk=61\/kk=33\/kk=126:=by rw[JY.out] at ĵ;exact of_decide_eq_true ĵ
    have HKN:=ĥ ĵ;clear ĵ;have hgo:∀(P:Prop),(∀d1 d2 d3:Bool,((kk:Int) != 61)=d1->((kk:Int) != 33)=d2->((kk:Int) != 126)=d3->(d1=false\/(d1=true/\d2=false)\/(d1=true/\d2=true/\d3=false))->P)->P:=λP h=>by
     refine h _ _ _ rfl rfl rfl ?_;rcases ſ with rfl|rfl|rfl
     ·exact .inl rfl
     ·exact .inr (.inl ⟨rfl,rfl⟩)
     ·exact .inr (.inr ⟨rfl,rfl,rfl⟩)
    refine hgo _ ?_;intro d1 d2 d3 q1 q2 q3 hd3;clear ſ hgo;cases bn with
    | false=>
     have Ď:k=m:=by
      rcases Nat.lt_or_ge k m with h|h
      ·have:=iJ.out k h;rw[l5.out,Bool.and_false] at this;cases this
      ·omega
     subst Ď;have rY:Hid ((if kindOk (K k)=true then aN else aK)=aN):=by show _=_;rw[HKK.out,HKN.out];rfl
     rcases hd3 with h|⟨h,h'⟩|⟨h,h',h''⟩<;>subst_vars<;>
     ·go_wp2_with fail;refine Calls.mono (qB.out _) ?_;rintro e w1 ⟨rfl,ϝ⟩;have bK:=ϝ;subst bK;go_wp2;go_ret;exact⟨(bH.out.alloc Ó _).alloc (by simp;omega) _,.inr ⟨Ϧ,wr.heap.size+1,by simp,(nX (by simp) 0).trans (by simp),(nX (by simp) 1).trans (by rw[rY.out];simp)⟩⟩
    | true=>
     have Ď:k<m:=by
      rcases Nat.lt_or_ge k m with h|h
      ·exact h
      ·exfalso;have hme:m=k:=by omega
       have:=HBAD.out (by omega);rw[hme,l5.out,HKN.out] at this;cases this
     rcases hd3 with h|⟨h,h'⟩|⟨h,h',h''⟩<;>subst_vars<;>
     ·go_wp2_with fail;refine Calls.mono (qB.out _) ?_;rintro e w1 ⟨rfl,ϝ⟩;have bK:=ϝ;subst bK;go_wp2;go_roundw;case rel=>exact⟨k+1,by omega,by go_num,bH.out.alloc Ó _⟩
      case measure=>simp[intOf]<;>omega
  ·have Ď:k=m:=by omega
   have Û:m=n:=by omega
   have ņ:(n:Int)<=(k:Int):=by omega
   have bH:=ĥ ϛ;clear ϛ;go_wp2;go_ret;exact⟨bH.out,.inl ⟨Û,rfl⟩⟩
theorem agU{B:Nat}{ea:Nat->Addr}(w:World)(E:Dr B ea w)(la:Option Addr)(n c:Nat)(K:Nat->Nat)(N V:Nat->ByteArray)(hP:qM w la n K N V)(ϟ:∀i,i<n->(N i).size<=1000000)(hn:(n:Int)<=9223372036854775807):
  Calls prog 31 #[.slice la n c] w λe w'=>∃v,e = .returned v/\Below w.heap.size w w'/\aL ea w' v (mC K N n) (mA K N n):=by
 by_cases h6:6<n
 ·refine (aee w la n c h6 hn (ea 1) E.c1).mono ?_;rintro e w' ⟨rfl,rfl⟩;exact⟨_,rfl,Below.refl _ _,.inr (.inl ⟨1,by omega,rfl,by unfold mC;rw[if_pos h6];rfl,by unfold mA;rw[if_pos h6]⟩)⟩
 ·obtain⟨g,g1,g2⟩:=ku (qC K N) n;refine (agS w la n c K N V hP ϟ (by omega) _ g g1 g2 (ea 3) (ea 10) E.c3 E.c10).mono ?_;rintro e w' ⟨hb,⟨Û,rfl⟩|⟨Û,pb,rfl,p0,p1⟩⟩
  ·exact⟨_,rfl,hb,.inl ⟨rfl,by unfold mC;rw[if_neg h6,if_neg (by omega)]⟩⟩
  ·refine⟨_,rfl,hb,.inr (.inr ?_)⟩;unfold mC mA;rw[if_neg h6,if_pos Û,if_neg h6,if_pos Û];by_cases hq:kindOk (K (ji (qC K N) n))=true
   ·rw[if_pos hq] at p1 ⊢;exact⟨pb,3,by omega,rfl,p0,p1,rfl⟩
   ·rw[if_neg hq] at p1 ⊢;exact⟨pb,10,by omega,rfl,p0,p1,rfl⟩
theorem YB(v:ByteArray)(k:Nat)(x y:ByteArray)(w:World)(hk:kindOk k=true):
  Calls prog 96 #[.string v,.agg #[.int .u8 (k:Int),.string x,.string y]] w λe w'=>e = .returned (.bool (Bh k v y))/\Below w.heap.size w w':=by
 have ſ:k=61\/k=33\/k=126:=of_decide_eq_true hk;have HB:Hid (Below w.heap.size w (w.alloc (.cells #[.int .u8 (k:Int),.string x,.string y] 125))):=(Below.refl _ _).alloc (Nat.le_refl _) _;have uO:Hid _:=λw0=>NZ v y w0
 rcases ſ with rfl|rfl|rfl
 ·have HF:Hid (Bh 61 v y=(v.toList==y.toList)):=rfl;clear hk;go_enter func96,ntmps96;go_wp2;go_ret;exact⟨by rw[HF.out];rfl,HB.out⟩
 ·have HF:Hid (Bh 33 v y = !(v.toList==y.toList)):=rfl;clear hk;go_enter func96,ntmps96;go_wp2;go_ret;exact⟨by rw[HF.out];rfl,HB.out⟩
 ·have HF:Hid (Bh 126 v y=(decide (y.size<=v.size)&&((v.extract 0 y.size).toList==y.toList))):=rfl;clear hk;go_enter func96,ntmps96;go_wp2_with fail;refine Calls.mono (uO.out _) ?_;rintro e w1 ⟨rfl,ϝ⟩;have bK:=ϝ;subst bK;go_wp2;go_ret;exact⟨by rw[HF.out];rfl,HB.out⟩
def Jp(ea:Nat->Addr)(w w':World)(N V:Nat->ByteArray)(n:Nat)(K:Nat->Nat)(X Y:Nat->ByteArray)(m:Nat)(e:Ending):Prop:=
 Below w.heap.size w w'/\∃(b:Bool) (v:Value),e = .returned (.tuple #[.bool b,v]) /\
  ((0<fC N V n/\b=false/\aL ea w' v (fC N V n) (fA N V n))\/(fC N V n=0/\0<mC K X m/\b=false/\aL ea w' v (mC K X m) (mA K X m))\/(fC N V n=0/\mC K X m=0/\b=sU N V n K X Y m/\v = .nilIface))
theorem aL.some{ea:Nat->Addr}{w:World}{v:Value}{C A:Int}(h:aL ea w v C A)(hC:0<C):(∃q,v = .iface 352 (.pointer (some q)))\/∃q,v = .iface 126 (.pointer (some q)):=by
 rcases h with⟨_,h⟩|⟨m,_,h,_⟩|⟨pb,m,_,h,_⟩
 ·omega
 ·exact .inl ⟨_,h⟩
 ·exact .inr ⟨_,h⟩
theorem aef{B:Nat}{ea:Nat->Addr}(w:World)(E:Dr B ea w)(hB:B<=w.heap.size)(la lm:Option Addr)(n c m cm:Nat)(N V:Nat->ByteArray)(K:Nat->Nat)(X Y:Nat->ByteArray)(hL:vg w la n N V)(hM:qM w lm m K X Y)
  (ϟ:∀i,i<n->(N i).size<=1000000/\(V i).size<=1000000) (hsx:∀i,i<m->(X i).size<=1000000) (hn:(n:Int)<=9223372036854775807) (hm:(m:Int)<=9223372036854775807) :
  Calls prog 63 #[.slice la n c,.slice lm m cm] w λe w'=>Jp ea w w' N V n K X Y m e:=by
 have qO:Hid _:=aaq w E la n c N V hL ϟ hn;have HE:=ĥ E;have HL:Hid (vg w la n N V):=hL;have HM:Hid (qM w lm m K X Y):=hM;have Qj:=ĥ hsx;have hC0:=(Dq N V n).1;have HCZ:=ĥ ((Dq N V n).2);have hM0:=(Qi K X m).1;have HMZ:=ĥ ((Qi K X m).2);have Xf:=(show Hid _ from λ(w0:World) (h0:Below w.heap.size w w0)=>agU w0 (E.below h0 hB) lm m cm K X Y (by
  rcases hM with h|⟨b,o,h,hc⟩
  ·exact .inl h
  ·refine .inr ⟨b,o,h,λk hk=>?_⟩;obtain⟨q0,q1,q2,q3⟩:=hc k hk;have hl:b<w.heap.size:=World.block_lt_of_cell? w ⟨b,_,none⟩ q0;exact⟨(h0.cell (p:=⟨b,_,none⟩) hl).trans q0,(h0.cell (p:=⟨b,_,none⟩) hl).trans q1,(h0.cell (p:=⟨b,_,none⟩) hl).trans q2,q3⟩) hsx hm)
 unfold Jp;obtain⟨C,hC⟩:∃C,fC N V n=C:=⟨_,rfl⟩;obtain⟨A,hA⟩:∃A,fA N V n=A:=⟨_,rfl⟩;obtain⟨C2,hC2⟩:∃C2,mC K X m=C2:=⟨_,rfl⟩;obtain⟨A2,hA2⟩:∃A2,mA K X m=A2:=⟨_,rfl⟩;rw[hC] at qO hC0 HCZ ⊢;rw[hA] at qO ⊢;rw[hC2] at Xf hM0 HMZ ⊢;rw[hA2] at Xf ⊢;clear hC hA hC2 hA2 hL hM ϟ hsx E;go_enter func63,ntmps63;go_wp2_with fail;refine Calls.mono qO.out ?_;rintro e w1 ⟨v,rfl,Ϗ,oN⟩;have HB1:=ĥ Ϗ;have mY:=ĥ oN;by_cases hCp:0<C
 ·rcases oN.some hCp with⟨q,rfl⟩|⟨q,rfl⟩<;>
  ·clear Ϗ oN;go_wp2;go_ret2;exact⟨HB1.out,_,_,rfl,.inl ⟨hCp,rfl,mY.out⟩⟩
 ·have hCe:C=0:=by omega
  have hv:=oN.none hCe;subst hv;have AO:=ĥ (Xf.out w1 Ϗ);clear Ϗ oN mY;go_wp2_with fail;refine Calls.mono AO.out ?_;rintro e w2 ⟨v,rfl,ϓ,oN⟩;have HB2:=ĥ (HB1.out.trans (ϓ.mono HB1.out.size));have mY:=ĥ oN;clear AO;by_cases hMp:0<C2
  ·rcases oN.some hMp with⟨q,rfl⟩|⟨q,rfl⟩<;>
   ·clear ϓ oN;go_wp2;go_ret2;exact⟨HB2.out,_,_,rfl,.inr (.inl ⟨hCe,hMp,rfl,mY.out⟩)⟩
  ·have hMe:C2=0:=by omega
   have hv:=oN.none hMe;subst hv;clear ϓ oN mY;have hz:=HCZ.out hCe;have hy:=HMZ.out hMe;have HVS:Hid (∀x,Jo N V x n=nK N V x n):=λx=>aa4 N V n x hz.2.2.2
   have al1:Hid (∀i,i<m->kindOk (K i)=true):=λi hi=>by
    have:=hy.2 i hi;unfold qC at this;rw[Bool.and_eq_true] at this;exact this.1
   have YC:n<=6:=hz.2.1;have hm6:m<=6:=hy.1;clear hz hy HCZ HMZ;go_wp2_with fail;go_loopw [9,22,23] (λ_ i _ wr=>∃k:Nat,k<=m/\i = .int .i64 k/\Below w.heap.size w wr/\sU N V n K X Y k=true) (λ_ i _ _=>m-(intOf i).toNat);case atStart=>exact⟨0,Nat.zero_le _,rfl,HB2.out,rfl⟩
   case round=>
    obtain⟨k,hk,rfl,ϛ,φ⟩:=hrel;have bH:=ĥ ϛ;have SK:=ĥ φ;have Ó:=ϛ.size;by_cases Ϧ:k<m
    ·obtain⟨lb,lo,rfl,Ϥ⟩:=HM.out.at k Ϧ;obtain⟨c0,c1,c2,acT⟩:=Ϥ k Ϧ;have Ú:lb<w.heap.size:=World.block_lt_of_cell? w ⟨lb,_,none⟩ c0;have è:(0:Int)<=(k:Int):=by omega
     have ϒ:(k:Int)<(m:Int):=by omega
     have e0:wr.cell? ⟨lb,lo+k*3,none⟩=some (.int .u8 (K k:Int)):=(ϛ.cell (p:=⟨lb,_,none⟩) Ú).trans c0;have e1:wr.cell? ⟨lb,lo+k*3+1,none⟩=some (.string (X k)):=(ϛ.cell (p:=⟨lb,_,none⟩) Ú).trans c1;have e2:wr.cell? ⟨lb,lo+k*3+2,none⟩=some (.string (Y k)):=(ϛ.cell (p:=⟨lb,_,none⟩) Ú).trans c2;obtain⟨W,hW⟩:∃W,W=wr.alloc (.cells #[.int .u8 (K k:Int),.string (X k),.string (Y k)] 125):=⟨_,rfl⟩;have hWb:Below wr.heap.size wr W:=by rw[hW];exact (Below.refl _ _).alloc (Nat.le_refl _) _
     have Qk:W.heap[wr.heap.size]? = some (.cells #[.int .u8 (K k:Int),.string (X k),.string (Y k)] 125 (0,0)):=by rw[hW];exact heap_alloc_new _ _
     have Tw:wr.heap.size<W.heap.size:=by rw[hW];simp
     have HWW:Hid (Below w.heap.size w W):=ϛ.trans (hWb.mono Ó);have k0:W.cell? ⟨wr.heap.size,0,none⟩=some (.int .u8 (K k:Int)):=by simp[World.cell?,Qk]
     have k1:W.cell? ⟨wr.heap.size,1,none⟩=some (.string (X k)):=by simp[World.cell?,Qk]
     have k2:W.cell? ⟨wr.heap.size,2,none⟩=some (.string (Y k)):=by simp[World.cell?,Qk]
     have HS:Hid (∀w0,Below W.heap.size W w0->w0.cell? ⟨wr.heap.size,0,none⟩=some (.int .u8 (K k:Int))/\w0.cell? ⟨wr.heap.size,1,none⟩=some (.string (X k))/\w0.cell? ⟨wr.heap.size,2,none⟩=some (.string (Y k))):=λw0 h=>⟨(h.cell (p:=⟨wr.heap.size,0,none⟩) Tw).trans (by simp[World.cell?,Qk]),(h.cell (p:=⟨wr.heap.size,1,none⟩) Tw).trans (by simp[World.cell?,Qk]),(h.cell (p:=⟨wr.heap.size,2,none⟩) Tw).trans (by simp[World.cell?,Qk])⟩
     have HVO:Hid (∀w0,Below W.heap.size W w0->Calls prog 97 #[.slice la n c,.string (X k)] w0 λe w'=>e = .returned (.string (nK N V (X k) n))/\(w'.cell? ⟨wr.heap.size,0,none⟩=some (.int .u8 (K k:Int))/\w'.cell? ⟨wr.heap.size,1,none⟩=some (.string (X k))/\w'.cell? ⟨wr.heap.size,2,none⟩=some (.string (Y k)))/\Below W.heap.size W w'):=λw0 h=>by
      have hw0:Below w.heap.size w w0:=HWW.out.trans (h.mono HWW.out.size);have hc:=Sg w0 la n c N V (HL.out.below hw0) (by omega) (X k);rw[HVS.out] at hc;refine hc.mono ?_;rintro e w' ⟨rfl,hb⟩;have h2:=h.trans (hb.mono h.size);exact⟨rfl,HS.out w' h2,h2⟩
     have Ct:Hid (∀w0,Below W.heap.size W w0->Calls prog 96 #[.string (nK N V (X k) n),.agg #[.int .u8 (K k:Int),.string (X k),.string (Y k)]] w0 λe w'=>e = .returned (.bool (Bh (K k) (nK N V (X k) n) (Y k)))/\(w'.cell? ⟨wr.heap.size,0,none⟩=some (.int .u8 (K k:Int))/\w'.cell? ⟨wr.heap.size,1,none⟩=some (.string (X k))/\w'.cell? ⟨wr.heap.size,2,none⟩=some (.string (Y k)))/\Below W.heap.size W w'):=λw0 h=>by
      refine (YB (nK N V (X k) n) (K k) (X k) (Y k) w0 (al1.out k Ϧ)).mono ?_;rintro e w' ⟨rfl,hb⟩;have h2:=h.trans (hb.mono h.size);exact⟨rfl,HS.out w' h2,h2⟩
     have HW:=ĥ hW;have PZ:Hid (Below W.heap.size W W):=Below.refl _ _;have ϙ:sU N V n K X Y (k+1)=(sU N V n K X Y k&&Bh (K k) (nK N V (X k) n) (Y k)):=rfl;rw[φ,Bool.true_and] at ϙ;have HST:=ĥ ϙ;have rX:Hid (Bh (K k) (nK N V (X k) n) (Y k)=false->sU N V n K X Y m=false):=λh=>SA N V n K X Y k h m Ϧ
     generalize Bh (K k) (nK N V (X k) n) (Y k)=bf at *;generalize nK N V (X k) n=vv at *;generalize K k=kk at *;generalize X k=xx at *;generalize Y k=yy at *;clear Ϥ c0 c1 c2 ϛ φ hW hWb Qk Tw ϙ;go_wp2_with fail;rw[<-HW.out];go_region_held3 (λw'=>w'.cell? ⟨wr.heap.size,0,none⟩=some (.int .u8 (kk:Int))/\w'.cell? ⟨wr.heap.size,1,none⟩=some (.string xx)/\w'.cell? ⟨wr.heap.size,2,none⟩=some (.string yy)) (go_keep) ((first|(go_at_call 97;refine Calls.mono (HVO.out _ (by first|exact PZ.out|exact PZ.out.trans ⟨rfl,rfl,rfl,Nat.le_refl _,λ_ _=>rfl⟩)) ?_;rintro e w7 ⟨rfl,⟨k0,k1,k2⟩,hc7⟩;have HC7:=ĥ hc7;clear hc7 HVO)|(go_at_call 96;refine Calls.mono (Ct.out _ (by first|exact HC7.out|exact HC7.out.trans ⟨rfl,rfl,rfl,Nat.le_refl _,λ_ _=>rfl⟩)) ?_;rintro e w8 ⟨rfl,⟨k0,k1,k2⟩,hc8⟩;have HC8:=ĥ hc8;clear hc8 Ct)));have HB8:Hid (Below w.heap.size w w8):=HWW.out.trans (HC8.out.mono HWW.out.size);cases bf with
     | true=>
      go_wp2;go_roundw;case rel=>exact⟨k+1,by omega,by go_num,HB8.out,HST.out⟩
      case measure=>simp[intOf]<;>omega
     | false=>
      have Ă:=rX.out rfl;have vM:=ĥ Ă;clear Ă;go_wp2;go_ret2;exact⟨HB8.out,by rw[vM.out];rfl⟩
    ·have ņ:(m:Int)<=(k:Int):=by omega
     have Ď:k=m:=by omega
     have HFM:Hid (sU N V n K X Y m=true):=by rw[<-Ď];exact φ
     clear ϛ φ SK Ď;go_wp2;go_ret2;exact⟨bH.out,_,_,rfl,.inr (.inr ⟨hCe,hMe,by rw[HFM.out],rfl⟩)⟩
end Go.Proofs.YtololnhfgjbhjaaGreatDoor
