import Derived.Test.YtololnhfgjbhjaaGreatDoorLabFaultGroup
import Derived.Sort.Walk0
set_option maxRecDepth 1000000
set_option maxHeartbeats 2000000
open Go.Proofs.Tryz
namespace Go.Proofs.YtololnhfgjbhjaaGreatDoor
open Go.RowKit aF
theorem ģ{p:Prop}(h:p):Go.RowKit.Hid p:=h
theorem NU(v y:ByteArray)(w:World):
  Calls prog 127 #[.string v,.string y] w λe w'=>e = .returned (.bool (decide (y.size<=v.size)&&((v.extract 0 y.size).toList==y.toList)))/\w'=w:=by
 have HI:Hid (Calls prog 166 #[.string v,.string y] w λe w'=>e = .returned (.bool (decide (y.size<=v.size)&&((v.extract 0 y.size).toList==y.toList)))/\w'=w):=by
  show Calls _ _ _ _ _;by_cases h:y.size<=v.size
  ·have d:decide ((y.size:Int)<=(v.size:Int))=true:=by simp;omega
   have dI:(y.size:Int)<=(v.size:Int):=by omega
   have d0:(0:Int)<=(y.size:Int):=by omega
   have HD:Hid (decide (y.size<=v.size)=true):=decide_eq_true h;go_enter func166,ntmps166;go_wp2;go_ret;exact⟨by rw[HD.out];rfl,rfl⟩
  ·have d:decide ((y.size:Int)<=(v.size:Int))=false:=by simp;omega
   have HD:Hid (decide (y.size<=v.size)=false):=decide_eq_false h;go_enter func166,ntmps166;go_wp2;go_ret;exact⟨by rw[HD.out];rfl,rfl⟩
 go_enter func127,ntmps127;go_wp2_with fail;refine Calls.mono HI.out ?_;rintro e w1 ⟨rfl,Ϝ⟩;have bH:=Ϝ.symm;subst bH;go_wp2;go_ret;exact⟨rfl,rfl⟩
noncomputable def I6(N V:Nat->ByteArray)(x:ByteArray)(n:Nat):ByteArray:=if iT (λi=>!((N i).toList==x.toList)) n<n then V (iT (λi=>!((N i).toList==x.toList)) n) else ⟨#[]⟩
theorem R7(w:World)(la:Option Addr)(n c:Nat)(N V:Nat->ByteArray)(hP:wu w la n N V)(hn:n<=1000)(x:ByteArray):
  Calls prog 97 #[.slice la n c,.string x] w λe w'=>e = .returned (.string (I6 N V x n))/\Below w.heap.size w w':=by
 have HP:Hid (wu w la n N V):=hP;obtain⟨g,g1,g2⟩:=jS (λi=>!((N i).toList==x.toList)) n;have HV:Hid (I6 N V x n=if iT (λi=>!((N i).toList==x.toList)) n<n then V (iT (λi=>!((N i).toList==x.toList)) n) else ⟨#[]⟩):=rfl;generalize iT (λi=>!((N i).toList==x.toList)) n=m at *;have iG:=ģ g1;have HG2:=ģ g2;clear hP g1 g2;go_enter func97,ntmps97;go_wp2_with fail;go_loopw [6,9,10] (λ_ i _ wr=>∃k:Nat,k<=m/\i = .int .i64 k/\Below w.heap.size w wr) (λ_ i _ _=>n-(intOf i).toNat);case atStart=>exact⟨0,Nat.zero_le _,rfl,Below.refl _ _⟩
 case round=>
  obtain⟨k,hk,rfl,ϝ⟩:=hrel;by_cases ϥ:k<n
  ·obtain⟨lb,lo,rfl,Ϧ⟩:=HP.out.at k ϥ;obtain⟨c0,c1⟩:=Ϧ k ϥ;have Ø:lb<w.heap.size:=World.block_lt_of_cell? w ⟨lb,_,none⟩ c0;have ä:(0:Int)<=(k:Int):=by omega
   have ϒ:(k:Int)<(n:Int):=by omega
   have e0:wr.cell? ⟨lb,lo+k*2,none⟩=some (.string (N k)):=(ϝ.cell (p:=⟨lb,_,none⟩) Ø).trans c0;have e1:wr.cell? ⟨lb,lo+k*2+1,none⟩=some (.string (V k)):=(ϝ.cell (p:=⟨lb,_,none⟩) Ø).trans c1;have bE:=ģ ϝ;have Ô:=ϝ.size;clear Ϧ c0 c1 ϝ;cases hq:((N k).toList==x.toList) with
   | true=>
    have ù:k=m:=by
     rcases Nat.lt_or_ge k m with h|h
     ·have:=iG.out k h;rw[hq] at this;cases this
     ·omega
    have HR:Hid (I6 N V x n=V k):=by show _=_;rw[HV.out,<-ù,if_pos ϥ]
    clear HV iG HG2;obtain⟨t1,ÿ⟩:∃t1,N k=t1:=⟨_,rfl⟩;obtain⟨t2,Ŝ⟩:∃t2,V k=t2:=⟨_,rfl⟩;rw[ÿ] at e0 hq;rw[Ŝ] at e1 HR;clear ÿ Ŝ ù;go_wp2;go_ret;exact⟨by rw[HR.out];rfl,bE.out.alloc Ô _⟩
   | false=>
    have ù:k<m:=by
     rcases Nat.lt_or_ge k m with h|h
     ·exact h
     ·exfalso;have hme:m=k:=by omega
      have:=HG2.out (by omega);rw[hme,hq] at this;cases this
    obtain⟨t1,ÿ⟩:∃t1,N k=t1:=⟨_,rfl⟩;obtain⟨t2,Ŝ⟩:∃t2,V k=t2:=⟨_,rfl⟩;rw[ÿ] at e0 hq;rw[Ŝ] at e1;clear ÿ Ŝ;go_wp2;go_roundw;case rel=>exact⟨k+1,by omega,by go_num,bE.out.alloc Ô _⟩
    case measure=>simp[intOf]<;>omega
  ·have Ł:(n:Int)<=(k:Int):=by omega
   have HR:Hid (I6 N V x n=⟨#[]⟩):=by show _=_;rw[HV.out,if_neg (by omega)]
   have bE:=ģ ϝ;clear ϝ HV;go_wp2;go_ret;exact⟨by rw[HR.out];rfl,bE.out⟩
theorem aaV(N V:Nat->ByteArray)(n:Nat)(ϱ:∀i,i<n->kR N V i=true):∀j,j<n->∀i,i<j->(N i).toList<(N j).toList:=by
 have step:∀j,j+1<n->(N j).toList<(N (j+1)).toList:=λj hj=>by
  have h:=ϱ (j+1) hj;unfold kR at h;rw[Bool.and_eq_true] at h;have h2:=h.2;simp[Sv] at h2;obtain⟨h3,h4⟩:=h2;rw[bytesLess_eq] at h3;have h5:¬ (N (j+1)).toList<(N j).toList:=of_decide_eq_false h3;rcases Std.Trichotomous.rel_or_eq_or_rel_swap (r:=(· < · : List UInt8->List UInt8->Prop)) (a:=(N j).toList) (b:=(N (j+1)).toList) with h6|h6|h6
  ·exact h6
  ·exact absurd h6.symm h4
  ·exact absurd h6 h5
 intro j;induction j with
 | zero=>intro _ i hi;omega
 | succ j ih=>
  intro hj i hi;rcases Nat.lt_or_ge i j with h|h
  ·exact List.lt_trans (ih (by omega) i h) (step j hj)
  ·have:i=j:=by omega
   rw[this];exact step j hj
theorem aaW(N V:Nat->ByteArray)(n:Nat)(x:ByteArray)(ϱ:∀i,i<n->kR N V i=true):I6 N V x n=ni N V x n:=by
 obtain⟨g,g1,g2⟩:=jS (λi=>!((N i).toList==x.toList)) n;unfold I6;generalize iT (λi=>!((N i).toList==x.toList)) n=m at *;have none:∀k,k<=m->ni N V x k=⟨#[]⟩:=λk=>by
  induction k with
  | zero=>intro _;rfl
  | succ k ih=>
   intro hk;have:=g1 k (by omega);rw[ni,if_neg (by simpa using this)];exact ih (by omega)
 by_cases Û:m<n
 ·rw[if_pos Û];have hm:(N m).toList=x.toList:=by simpa using g2 Û
  have up:∀k,m<k->k<=n->ni N V x k=V m:=λk=>by
   induction k with
   | zero=>intro h;omega
   | succ k ih=>
    intro h1 h2;rw[ni];rcases Nat.lt_or_ge m k with h|h
    ·have hl:=aaV N V n ϱ k (by omega) m h;rw[if_neg ?_]
     ·exact ih h (by omega)
     ·intro e;have e':(N k).toList=x.toList:=by simpa using e
      rw[hm,e'] at hl;exact List.lt_irrefl _ hl
    ·have:k=m:=by omega
     rw[this,if_pos (by simpa using hm)]
  exact (up n Û (Nat.le_refl _)).symm
 ·rw[if_neg Û];exact (none n (by omega)).symm
noncomputable def mC(K:Nat->Nat)(N:Nat->ByteArray)(n:Nat):Int:=if 6<n then 2 else if iT (ql K N) n<n then (if kindOk (K (iT (ql K N) n))=true then 4 else 11) else 0
noncomputable def mA(K:Nat->Nat)(N:Nat->ByteArray)(n:Nat):Int:=if 6<n then -1 else if iT (ql K N) n<n then (iT (ql K N) n:Int) else -1
theorem Qj(K:Nat->Nat)(N:Nat->ByteArray)(n:Nat):0<=mC K N n/\(mC K N n=0->n<=6/\∀i,i<n->ql K N i=true):=by
 unfold mC;by_cases h6:6<n
 ·rw[if_pos h6];exact⟨by omega,λh=>by omega⟩
 ·rw[if_neg h6];by_cases hb:iT (ql K N) n<n
  ·rw[if_pos hb];split
   ·exact⟨by omega,λh=>by omega⟩
   ·exact⟨by omega,λh=>by omega⟩
  ·rw[if_neg hb];obtain⟨g,g1,g2⟩:=jS (ql K N) n;have ő:iT (ql K N) n=n:=by omega
   rw[ő] at g1;exact⟨by omega,λ_=>⟨by omega,g1⟩⟩
theorem adZ(w:World)(la:Option Addr)(n c:Nat)(hn:6<n)(ĕ:(n:Int)<=9223372036854775807)(a:Addr)(hE:w.cell? ⟨0,0,none⟩=some (.iface 352 (.pointer (some a)))):
  Calls prog 31 #[.slice la n c] w λe w'=>e = .returned (.iface 352 (.pointer (some a)))/\w'=w:=by
 have hd:decide ((6:Int)<(n:Int))=true:=by simp;omega
 go_enter func31,ntmps31;go_wp2;go_ret;exact⟨rfl,rfl⟩
def aiN(w w':World)(K:Nat->Nat)(m n:Nat)(aN aK:Addr)(e:Ending):Prop:=
 Below w.heap.size w w'/\((m=n/\e = .returned .nilIface)\/(m<n/\∃pb:Nat,e = .returned (.iface 126 (.pointer (some ⟨pb,0,none⟩)))/\w'.cell? ⟨pb,0,none⟩=some (.int .i64 (m:Int))/\w'.cell? ⟨pb,1,none⟩=some (.iface 352 (.pointer (some (if kindOk (K m)=true then aN else aK))))))
theorem agx(w:World)(la:Option Addr)(n c:Nat)(K:Nat->Nat)(N V:Nat->ByteArray)(hP:uQ w la n K N V)(ϟ:∀i,i<n->(N i).size<=1000000)(hn:n<=6)(m:Nat)(hm:m<=n)(ϱ:∀i,i<m->ql K N i=true)(Ϣ:m<n->ql K N m=false)
  (aN aK:Addr) (EC:w.cell? ⟨6,0,none⟩=some (.iface 352 (.pointer (some aN)))) (hEK:w.cell? ⟨5,0,none⟩=some (.iface 352 (.pointer (some aK)))) :
  Calls prog 31 #[.slice la n c] w λe w'=>aiN w w' K m n aN aK e:=by
 have HP:Hid (uQ w la n K N V):=hP;have iq:=ģ ϱ;have HBAD:=ģ Ϣ;have gM:=ģ ϟ;have uf:=ģ EC;have HEK:=ģ hEK;have hGN:6<w.heap.size:=World.block_lt_of_cell? w ⟨6,0,none⟩ EC;have hGK:5<w.heap.size:=World.block_lt_of_cell? w ⟨5,0,none⟩ hEK;have hd:decide ((6:Int)<(n:Int))=false:=by simp;omega
 clear hP ϱ Ϣ EC hEK ϟ;go_enter func31,ntmps31;go_wp2_with fail;go_loopw [3,4,11] (λ_ _ i wr=>∃k:Nat,k<=m/\i = .int .i64 k/\Below w.heap.size w wr) (λ_ _ i _=>n-(intOf i).toNat);case atStart=>exact⟨0,Nat.zero_le _,rfl,Below.refl _ _⟩
 case round=>
  obtain⟨k,hk,rfl,ϝ⟩:=hrel;by_cases ϥ:k<n
  ·obtain⟨lb,lo,rfl,Ϧ⟩:=HP.out.at k ϥ;obtain⟨c0,c1,c2,acD⟩:=Ϧ k ϥ;have Ø:lb<w.heap.size:=World.block_lt_of_cell? w ⟨lb,_,none⟩ c0;have ä:(0:Int)<=(k:Int):=by omega
   have ϒ:(k:Int)<(n:Int):=by omega
   have e0:wr.cell? ⟨lb,lo+k*3,none⟩=some (.int .u8 (K k:Int)):=(ϝ.cell (p:=⟨lb,_,none⟩) Ø).trans c0;have e1:wr.cell? ⟨lb,lo+k*3+1,none⟩=some (.string (N k)):=(ϝ.cell (p:=⟨lb,_,none⟩) Ø).trans c1;have e2:wr.cell? ⟨lb,lo+k*3+2,none⟩=some (.string (V k)):=(ϝ.cell (p:=⟨lb,_,none⟩) Ø).trans c2;have bE:=ģ ϝ;have Ô:=ϝ.size;have gN:wr.cell? ⟨6,0,none⟩=some (.iface 352 (.pointer (some aN))):=(ϝ.cell (p:=⟨6,0,none⟩) hGN).trans uf.out;have gK:wr.cell? ⟨5,0,none⟩=some (.iface 352 (.pointer (some aK))):=(ϝ.cell (p:=⟨5,0,none⟩) hGK).trans HEK.out;have hG1:6<wr.heap.size:=by omega
   have hG7:5<wr.heap.size:=by omega
   have Ê:=λw0=>GI (N k) w0 (gM.out k ϥ)
   have ó:ql K N k=(kindOk (K k)&&isName (N k)):=rfl;obtain⟨bn,ő⟩:∃bn,isName (N k)=bn:=⟨_,rfl⟩;rw[ő] at Ê ó;have oI:=ģ Ê;have lJ:=ģ ó;clear Ê ó ő ϝ c0 c1 c2 Ϧ;obtain⟨kk,ş⟩:∃kk,K k=kk:=⟨_,rfl⟩;rw[ş] at e0 acD lJ;have HKK:=ģ ş;have OY:Hid (kindOk kk=decide (kk=61\/kk=33\/kk=126)):=rfl;clear ş;obtain⟨t1,ÿ⟩:∃t1,N k=t1:=⟨_,rfl⟩;obtain⟨t2,Ŝ⟩:∃t2,V k=t2:=⟨_,rfl⟩;rw[ÿ] at e1 oI;rw[Ŝ] at e2;clear ÿ Ŝ;cases ı:kindOk kk with
   | false=>
    have ù:k=m:=by
     rcases Nat.lt_or_ge k m with h|h
     ·have:=iq.out k h;rw[lJ.out,ı] at this;cases this
     ·omega
    subst ù;have rz:Hid ((if kindOk (K k)=true then aN else aK)=aK):=by show _=_;rw[HKK.out,ı];rfl
    have Ă:¬ (kk=61\/kk=33\/kk=126):=by rw[OY.out] at ı;exact of_decide_eq_false ı
    have d1:((kk:Int) != 61)=true:=by rw[bne_iff_ne];omega
    have d2:((kk:Int) != 33)=true:=by rw[bne_iff_ne];omega
    have d3:((kk:Int) != 126)=true:=by rw[bne_iff_ne];omega
    clear ı Ă;go_wp2;go_ret;exact⟨(bE.out.alloc Ô _).alloc (by simp;omega) _,.inr ⟨ϥ,wr.heap.size+1,by simp,(nN (by simp) 0).trans (by simp),(nN (by simp) 1).trans (by rw[rz.out];simp)⟩⟩
   | true=>
    have Ś:kk=61\/kk=33\/kk=126:=by rw[OY.out] at ı;exact of_decide_eq_true ı
    have HKN:=ģ ı;clear ı;have hgo:∀(P:Prop),(∀d1 d2 d3:Bool,((kk:Int) != 61)=d1->((kk:Int) != 33)=d2->((kk:Int) != 126)=d3->(d1=false\/(d1=true/\d2=false)\/(d1=true/\d2=true/\d3=false))->P)->P:=λP h=>by
     refine h _ _ _ rfl rfl rfl ?_;rcases Ś with rfl|rfl|rfl
     ·exact .inl rfl
     ·exact .inr (.inl ⟨rfl,rfl⟩)
     ·exact .inr (.inr ⟨rfl,rfl,rfl⟩)
    refine hgo _ ?_;intro d1 d2 d3 q1 q2 q3 hd3;clear Ś hgo;cases bn with
    | false=>
     have ù:k=m:=by
      rcases Nat.lt_or_ge k m with h|h
      ·have:=iq.out k h;rw[lJ.out,Bool.and_false] at this;cases this
      ·omega
     subst ù;have rz:Hid ((if kindOk (K k)=true then aN else aK)=aN):=by show _=_;rw[HKK.out,HKN.out];rfl
     rcases hd3 with h|⟨h,h'⟩|⟨h,h',h''⟩<;>subst_vars<;>
     ·go_wp2_with fail;refine Calls.mono (oI.out _) ?_;rintro e w1 ⟨rfl,Ϝ⟩;have bH:=Ϝ;subst bH;go_wp2;go_ret;exact⟨(bE.out.alloc Ô _).alloc (by simp;omega) _,.inr ⟨ϥ,wr.heap.size+1,by simp,(nN (by simp) 0).trans (by simp),(nN (by simp) 1).trans (by rw[rz.out];simp)⟩⟩
    | true=>
     have ù:k<m:=by
      rcases Nat.lt_or_ge k m with h|h
      ·exact h
      ·exfalso;have hme:m=k:=by omega
       have:=HBAD.out (by omega);rw[hme,lJ.out,HKN.out] at this;cases this
     rcases hd3 with h|⟨h,h'⟩|⟨h,h',h''⟩<;>subst_vars<;>
     ·go_wp2_with fail;refine Calls.mono (oI.out _) ?_;rintro e w1 ⟨rfl,Ϝ⟩;have bH:=Ϝ;subst bH;go_wp2;go_roundw;case rel=>exact⟨k+1,by omega,by go_num,bE.out.alloc Ô _⟩
      case measure=>simp[intOf]<;>omega
  ·have ù:k=m:=by omega
   have Û:m=n:=by omega
   have Ł:(n:Int)<=(k:Int):=by omega
   have bE:=ģ ϝ;clear ϝ;go_wp2;go_ret;exact⟨bE.out,.inl ⟨Û,rfl⟩⟩
theorem agz{B:Nat}{ea:Nat->Addr}(w:World)(E:C9 B ea w)(la:Option Addr)(n c:Nat)(K:Nat->Nat)(N V:Nat->ByteArray)(hP:uQ w la n K N V)(ϟ:∀i,i<n->(N i).size<=1000000)(hn:(n:Int)<=9223372036854775807):
  Calls prog 31 #[.slice la n c] w λe w'=>∃v,e = .returned v/\Below w.heap.size w w'/\aM ea w' v (mC K N n) (mA K N n):=by
 by_cases h6:6<n
 ·refine (adZ w la n c h6 hn (ea 1) E.c1).mono ?_;rintro e w' ⟨rfl,rfl⟩;exact⟨_,rfl,Below.refl _ _,.inr (.inl ⟨1,by omega,rfl,by unfold mC;rw[if_pos h6];rfl,by unfold mA;rw[if_pos h6]⟩)⟩
 ·obtain⟨g,g1,g2⟩:=jS (ql K N) n;refine (agx w la n c K N V hP ϟ (by omega) _ g g1 g2 (ea 3) (ea 10) E.c3 E.c10).mono ?_;rintro e w' ⟨hb,⟨Û,rfl⟩|⟨Û,pb,rfl,p0,p1⟩⟩
  ·exact⟨_,rfl,hb,.inl ⟨rfl,by unfold mC;rw[if_neg h6,if_neg (by omega)]⟩⟩
  ·refine⟨_,rfl,hb,.inr (.inr ?_)⟩;unfold mC mA;rw[if_neg h6,if_pos Û,if_neg h6,if_pos Û];by_cases hq:kindOk (K (iT (ql K N) n))=true
   ·rw[if_pos hq] at p1 ⊢;exact⟨pb,3,by omega,rfl,p0,p1,rfl⟩
   ·rw[if_neg hq] at p1 ⊢;exact⟨pb,10,by omega,rfl,p0,p1,rfl⟩
theorem Yv(v:ByteArray)(k:Nat)(x y:ByteArray)(w:World)(hk:kindOk k=true):
  Calls prog 96 #[.string v,.agg #[.int .u8 (k:Int),.string x,.string y]] w λe w'=>e = .returned (.bool (A9 k v y))/\Below w.heap.size w w':=by
 have Ś:k=61\/k=33\/k=126:=of_decide_eq_true hk;have HB:Hid (Below w.heap.size w (w.alloc (.cells #[.int .u8 (k:Int),.string x,.string y] 125))):=(Below.refl _ _).alloc (Nat.le_refl _) _;have Kc:Hid _:=λw0=>NU v y w0
 rcases Ś with rfl|rfl|rfl
 ·have HF:Hid (A9 61 v y=(v.toList==y.toList)):=rfl;clear hk;go_enter func96,ntmps96;go_wp2;go_ret;exact⟨by rw[HF.out];rfl,HB.out⟩
 ·have HF:Hid (A9 33 v y = !(v.toList==y.toList)):=rfl;clear hk;go_enter func96,ntmps96;go_wp2;go_ret;exact⟨by rw[HF.out];rfl,HB.out⟩
 ·have HF:Hid (A9 126 v y=(decide (y.size<=v.size)&&((v.extract 0 y.size).toList==y.toList))):=rfl;clear hk;go_enter func96,ntmps96;go_wp2_with fail;refine Calls.mono (Kc.out _) ?_;rintro e w1 ⟨rfl,Ϝ⟩;have bH:=Ϝ;subst bH;go_wp2;go_ret;exact⟨by rw[HF.out];rfl,HB.out⟩
def I7(ea:Nat->Addr)(w w':World)(N V:Nat->ByteArray)(n:Nat)(K:Nat->Nat)(X Y:Nat->ByteArray)(m:Nat)(e:Ending):Prop:=
 Below w.heap.size w w'/\∃(b:Bool) (v:Value),e = .returned (.tuple #[.bool b,v]) /\
  ((0<fC N V n/\b=false/\aM ea w' v (fC N V n) (fA N V n))\/(fC N V n=0/\0<mC K X m/\b=false/\aM ea w' v (mC K X m) (mA K X m))\/(fC N V n=0/\mC K X m=0/\b=rZ N V n K X Y m/\v = .nilIface))
theorem aM.some{ea:Nat->Addr}{w:World}{v:Value}{C A:Int}(h:aM ea w v C A)(hC:0<C):(∃q,v = .iface 352 (.pointer (some q)))\/∃q,v = .iface 126 (.pointer (some q)):=by
 rcases h with⟨_,h⟩|⟨m,_,h,_⟩|⟨pb,m,_,h,_⟩
 ·omega
 ·exact .inl ⟨_,h⟩
 ·exact .inr ⟨_,h⟩
theorem ad1{B:Nat}{ea:Nat->Addr}(w:World)(E:C9 B ea w)(hB:B<=w.heap.size)(la lm:Option Addr)(n c m cm:Nat)(N V:Nat->ByteArray)(K:Nat->Nat)(X Y:Nat->ByteArray)(hL:wu w la n N V)(hM:uQ w lm m K X Y)
  (ϟ:∀i,i<n->(N i).size<=1000000/\(V i).size<=1000000) (hsx:∀i,i<m->(X i).size<=1000000) (hn:(n:Int)<=9223372036854775807) (hm:(m:Int)<=9223372036854775807) :
  Calls prog 63 #[.slice la n c,.slice lm m cm] w λe w'=>I7 ea w w' N V n K X Y m e:=by
 have qz:Hid _:=aai w E la n c N V hL ϟ hn;have HE:=ģ E;have HL:Hid (wu w la n N V):=hL;have HM:Hid (uQ w lm m K X Y):=hM;have Qk:=ģ hsx;have hC0:=(C8 N V n).1;have HCZ:=ģ ((C8 N V n).2);have hM0:=(Qj K X m).1;have HMZ:=ģ ((Qj K X m).2);have WY:=(show Hid _ from λ(w0:World) (h0:Below w.heap.size w w0)=>agz w0 (E.below h0 hB) lm m cm K X Y (by
  rcases hM with h|⟨b,o,h,hc⟩
  ·exact .inl h
  ·refine .inr ⟨b,o,h,λk hk=>?_⟩;obtain⟨q0,q1,q2,q3⟩:=hc k hk;have hl:b<w.heap.size:=World.block_lt_of_cell? w ⟨b,_,none⟩ q0;exact⟨(h0.cell (p:=⟨b,_,none⟩) hl).trans q0,(h0.cell (p:=⟨b,_,none⟩) hl).trans q1,(h0.cell (p:=⟨b,_,none⟩) hl).trans q2,q3⟩) hsx hm)
 unfold I7;obtain⟨C,hC⟩:∃C,fC N V n=C:=⟨_,rfl⟩;obtain⟨A,hA⟩:∃A,fA N V n=A:=⟨_,rfl⟩;obtain⟨C2,hC2⟩:∃C2,mC K X m=C2:=⟨_,rfl⟩;obtain⟨A2,hA2⟩:∃A2,mA K X m=A2:=⟨_,rfl⟩;rw[hC] at qz hC0 HCZ ⊢;rw[hA] at qz ⊢;rw[hC2] at WY hM0 HMZ ⊢;rw[hA2] at WY ⊢;clear hC hA hC2 hA2 hL hM ϟ hsx E;go_enter func63,ntmps63;go_wp2_with fail;refine Calls.mono qz.out ?_;rintro e w1 ⟨v,rfl,Ϗ,oK⟩;have HB1:=ģ Ϗ;have mM:=ģ oK;by_cases hCp:0<C
 ·rcases oK.some hCp with⟨q,rfl⟩|⟨q,rfl⟩<;>
  ·clear Ϗ oK;go_wp2;go_ret2;exact⟨HB1.out,_,_,rfl,.inl ⟨hCp,rfl,mM.out⟩⟩
 ·have hCe:C=0:=by omega
  have hv:=oK.none hCe;subst hv;have Aw:=ģ (WY.out w1 Ϗ);clear Ϗ oK mM;go_wp2_with fail;refine Calls.mono Aw.out ?_;rintro e w2 ⟨v,rfl,ϓ,oK⟩;have HB2:=ģ (HB1.out.trans (ϓ.mono HB1.out.size));have mM:=ģ oK;clear Aw;by_cases hMp:0<C2
  ·rcases oK.some hMp with⟨q,rfl⟩|⟨q,rfl⟩<;>
   ·clear ϓ oK;go_wp2;go_ret2;exact⟨HB2.out,_,_,rfl,.inr (.inl ⟨hCe,hMp,rfl,mM.out⟩)⟩
  ·have hMe:C2=0:=by omega
   have hv:=oK.none hMe;subst hv;clear ϓ oK mM;have hz:=HCZ.out hCe;have hy:=HMZ.out hMe;have HVS:Hid (∀x,I6 N V x n=ni N V x n):=λx=>aaW N V n x hz.2.2.2
   have alV:Hid (∀i,i<m->kindOk (K i)=true):=λi hi=>by
    have:=hy.2 i hi;unfold ql at this;rw[Bool.and_eq_true] at this;exact this.1
   have Yw:n<=6:=hz.2.1;have hm6:m<=6:=hy.1;clear hz hy HCZ HMZ;go_wp2_with fail;go_loopw [9,22,23] (λ_ i _ wr=>∃k:Nat,k<=m/\i = .int .i64 k/\Below w.heap.size w wr/\rZ N V n K X Y k=true) (λ_ i _ _=>m-(intOf i).toNat);case atStart=>exact⟨0,Nat.zero_le _,rfl,HB2.out,rfl⟩
   case round=>
    obtain⟨k,hk,rfl,ϝ,σ⟩:=hrel;have bE:=ģ ϝ;have SH:=ģ σ;have Ô:=ϝ.size;by_cases ϥ:k<m
    ·obtain⟨lb,lo,rfl,Ϧ⟩:=HM.out.at k ϥ;obtain⟨c0,c1,c2,acD⟩:=Ϧ k ϥ;have Ø:lb<w.heap.size:=World.block_lt_of_cell? w ⟨lb,_,none⟩ c0;have ä:(0:Int)<=(k:Int):=by omega
     have ϒ:(k:Int)<(m:Int):=by omega
     have e0:wr.cell? ⟨lb,lo+k*3,none⟩=some (.int .u8 (K k:Int)):=(ϝ.cell (p:=⟨lb,_,none⟩) Ø).trans c0;have e1:wr.cell? ⟨lb,lo+k*3+1,none⟩=some (.string (X k)):=(ϝ.cell (p:=⟨lb,_,none⟩) Ø).trans c1;have e2:wr.cell? ⟨lb,lo+k*3+2,none⟩=some (.string (Y k)):=(ϝ.cell (p:=⟨lb,_,none⟩) Ø).trans c2;obtain⟨W,hW⟩:∃W,W=wr.alloc (.cells #[.int .u8 (K k:Int),.string (X k),.string (Y k)] 125):=⟨_,rfl⟩;have hWb:Below wr.heap.size wr W:=by rw[hW];exact (Below.refl _ _).alloc (Nat.le_refl _) _
     have Ql:W.heap[wr.heap.size]? = some (.cells #[.int .u8 (K k:Int),.string (X k),.string (Y k)] 125 (0,0)):=by rw[hW];exact heap_alloc_new _ _
     have hWl:wr.heap.size<W.heap.size:=by rw[hW];simp
     have HWW:Hid (Below w.heap.size w W):=ϝ.trans (hWb.mono Ô);have k0:W.cell? ⟨wr.heap.size,0,none⟩=some (.int .u8 (K k:Int)):=by simp[World.cell?,Ql]
     have k1:W.cell? ⟨wr.heap.size,1,none⟩=some (.string (X k)):=by simp[World.cell?,Ql]
     have k2:W.cell? ⟨wr.heap.size,2,none⟩=some (.string (Y k)):=by simp[World.cell?,Ql]
     have HS:Hid (∀w0,Below W.heap.size W w0->w0.cell? ⟨wr.heap.size,0,none⟩=some (.int .u8 (K k:Int))/\w0.cell? ⟨wr.heap.size,1,none⟩=some (.string (X k))/\w0.cell? ⟨wr.heap.size,2,none⟩=some (.string (Y k))):=λw0 h=>⟨(h.cell (p:=⟨wr.heap.size,0,none⟩) hWl).trans (by simp[World.cell?,Ql]),(h.cell (p:=⟨wr.heap.size,1,none⟩) hWl).trans (by simp[World.cell?,Ql]),(h.cell (p:=⟨wr.heap.size,2,none⟩) hWl).trans (by simp[World.cell?,Ql])⟩
     have HVO:Hid (∀w0,Below W.heap.size W w0->Calls prog 97 #[.slice la n c,.string (X k)] w0 λe w'=>e = .returned (.string (ni N V (X k) n))/\(w'.cell? ⟨wr.heap.size,0,none⟩=some (.int .u8 (K k:Int))/\w'.cell? ⟨wr.heap.size,1,none⟩=some (.string (X k))/\w'.cell? ⟨wr.heap.size,2,none⟩=some (.string (Y k)))/\Below W.heap.size W w'):=λw0 h=>by
      have hw0:Below w.heap.size w w0:=HWW.out.trans (h.mono HWW.out.size);have hc:=R7 w0 la n c N V (HL.out.below hw0) (by omega) (X k);rw[HVS.out] at hc;refine hc.mono ?_;rintro e w' ⟨rfl,hb⟩;have h2:=h.trans (hb.mono h.size);exact⟨rfl,HS.out w' h2,h2⟩
     have Cg:Hid (∀w0,Below W.heap.size W w0->Calls prog 96 #[.string (ni N V (X k) n),.agg #[.int .u8 (K k:Int),.string (X k),.string (Y k)]] w0 λe w'=>e = .returned (.bool (A9 (K k) (ni N V (X k) n) (Y k)))/\(w'.cell? ⟨wr.heap.size,0,none⟩=some (.int .u8 (K k:Int))/\w'.cell? ⟨wr.heap.size,1,none⟩=some (.string (X k))/\w'.cell? ⟨wr.heap.size,2,none⟩=some (.string (Y k)))/\Below W.heap.size W w'):=λw0 h=>by
      refine (Yv (ni N V (X k) n) (K k) (X k) (Y k) w0 (alV.out k ϥ)).mono ?_;rintro e w' ⟨rfl,hb⟩;have h2:=h.trans (hb.mono h.size);exact⟨rfl,HS.out w' h2,h2⟩
     have HW:=ģ hW;have P7:Hid (Below W.heap.size W W):=Below.refl _ _;have ϔ:rZ N V n K X Y (k+1)=(rZ N V n K X Y k&&A9 (K k) (ni N V (X k) n) (Y k)):=rfl;rw[σ,Bool.true_and] at ϔ;have HST:=ģ ϔ;have zo:Hid (A9 (K k) (ni N V (X k) n) (Y k)=false->rZ N V n K X Y m=false):=λh=>Sy N V n K X Y k h m ϥ
     generalize A9 (K k) (ni N V (X k) n) (Y k)=bf at *;generalize ni N V (X k) n=vv at *;generalize K k=kk at *;generalize X k=xx at *;generalize Y k=yy at *;clear Ϧ c0 c1 c2 ϝ σ hW hWb Ql hWl ϔ;go_wp2_with fail;rw[<-HW.out];go_region_held3 (λw'=>w'.cell? ⟨wr.heap.size,0,none⟩=some (.int .u8 (kk:Int))/\w'.cell? ⟨wr.heap.size,1,none⟩=some (.string xx)/\w'.cell? ⟨wr.heap.size,2,none⟩=some (.string yy)) (go_keep) ((first|(go_at_call 97;refine Calls.mono (HVO.out _ (by first|exact P7.out|exact P7.out.trans ⟨rfl,rfl,rfl,Nat.le_refl _,λ_ _=>rfl⟩)) ?_;rintro e w7 ⟨rfl,⟨k0,k1,k2⟩,hc7⟩;have HC7:=ģ hc7;clear hc7 HVO)|(go_at_call 96;refine Calls.mono (Cg.out _ (by first|exact HC7.out|exact HC7.out.trans ⟨rfl,rfl,rfl,Nat.le_refl _,λ_ _=>rfl⟩)) ?_;rintro e w8 ⟨rfl,⟨k0,k1,k2⟩,hc8⟩;have HC8:=ģ hc8;clear hc8 Cg)));have HB8:Hid (Below w.heap.size w w8):=HWW.out.trans (HC8.out.mono HWW.out.size);cases bf with
     | true=>
      go_wp2;go_roundw;case rel=>exact⟨k+1,by omega,by go_num,HB8.out,HST.out⟩
      case measure=>simp[intOf]<;>omega
     | false=>
      have Ă:=zo.out rfl;have xA:=ģ Ă;clear Ă;go_wp2;go_ret2;exact⟨HB8.out,by rw[xA.out];rfl⟩
    ·have Ł:(m:Int)<=(k:Int):=by omega
     have ù:k=m:=by omega
     have HFM:Hid (rZ N V n K X Y m=true):=by rw[<-ù];exact σ
     clear ϝ σ SH ù;go_wp2;go_ret2;exact⟨bE.out,_,_,rfl,.inr (.inr ⟨hCe,hMe,by rw[HFM.out],rfl⟩)⟩
end Go.Proofs.YtololnhfgjbhjaaGreatDoor
