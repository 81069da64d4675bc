import Derived.Test.YtalliohkalnaeaaGreatDoorLabFaultGroup
import Derived.Test.YtalliohkalnaeaaGreatDoorRefTicksGroup
import Derived.Sort.Walk0
import Derived.Deep.QuietTactic
import Derived.BigQuiet
import Derived.Deep.RegionHeld3
set_option maxRecDepth 1000000
set_option maxHeartbeats 2000000
namespace Go.Proofs.YtalliohkalnaeaaGreatDoor
open Go.RowKit aF
theorem Kh (v y:ByteArray) (w:World) :
  Calls Tryz.prog 121 #[.string v,.string y] w fun e w'=>e = .returned (.bool (decide (y.size<=v.size)&&((v.extract 0 y.size).toList==y.toList)))/\w'=w:=by
 have HI:Hid (Calls Tryz.prog 160 #[.string v,.string y] w fun e w'=>e = .returned (.bool (decide (y.size<=v.size)&&((v.extract 0 y.size).toList==y.toList)))/\w'=w):=by
  show Calls _ _ _ _ _;by_cases h:y.size<=v.size
  ·have d:decide ((y.size:Int)<=(v.size:Int))=true:=by simp;omega
   have dI:(y.size:Int)<=(v.size:Int):=by omega
   have d0:(0:Int)<=(y.size:Int):=by omega
   have HD:Hid (decide (y.size<=v.size)=true):=decide_eq_true h;go_enter Tryz.func160,Tryz.ntmps160;go_wp2;go_ret;exact⟨by rw[HD.out];rfl,rfl⟩
  ·have d:decide ((y.size:Int)<=(v.size:Int))=false:=by simp;omega
   have HD:Hid (decide (y.size<=v.size)=false):=decide_eq_false h;go_enter Tryz.func160,Tryz.ntmps160;go_wp2;go_ret;exact⟨by rw[HD.out];rfl,rfl⟩
 go_enter Tryz.func121,Tryz.ntmps121;go_wp2_with fail;refine Calls.mono HI.out ?_;rintro e w1 ⟨rfl,hw1⟩;have bF:=hw1.symm;subst bF;go_wp2;go_ret;exact⟨rfl,rfl⟩
noncomputable def E9 (N V:Nat->ByteArray) (x:ByteArray) (n:Nat):ByteArray:=if iF (fun i=>!((N i).toList==x.toList)) n<n then V (iF (fun i=>!((N i).toList==x.toList)) n) else ⟨#[]⟩
theorem Ot (w:World) (la:Option Addr) (n c:Nat) (N V:Nat->ByteArray) (hP:qU w la n N V) (hn:n<=1000) (x:ByteArray) :
  Calls Tryz.prog 91 #[.slice la n c,.string x] w fun e w'=>e = .returned (.string (E9 N V x n))/\Below w.heap.size w w':=by
 have HP:Hid (qU w la n N V):=hP;obtain⟨g,g1,g2⟩:=kI (fun i=>!((N i).toList==x.toList)) n;have HV:Hid (E9 N V x n=if iF (fun i=>!((N i).toList==x.toList)) n<n then V (iF (fun i=>!((N i).toList==x.toList)) n) else ⟨#[]⟩):=rfl;generalize iF (fun i=>!((N i).toList==x.toList)) n=m at *;have iL:=(show Hid _ from g1);have HG2:=(show Hid _ from g2);clear hP g1 g2;go_enter Tryz.func91,Tryz.ntmps91;go_wp2_with fail;go_loopw [6,9,10] (fun _ i _ wr=>∃ k:Nat,k<=m/\i = .int .i64 k/\Below w.heap.size w wr) (fun _ i _ _=>n-(intOf i).toNat);case atStart=>exact⟨0,Nat.zero_le _,rfl,Below.refl _ _⟩
 case round=>
  obtain⟨k,hk,rfl,hbr⟩:=hrel;by_cases hkn:k<n
  ·obtain⟨lb,lo,rfl,hcs⟩:=HP.out.at k hkn;obtain⟨c0,c1⟩:=hcs k hkn;have hlb:lb<w.heap.size:=World.block_lt_of_cell? w ⟨lb,_,none⟩ c0;have hk0:(0:Int)<=(k:Int):=by omega
   have hk1:(k:Int)<(n:Int):=by omega
   have e0:wr.cell? ⟨lb,lo+k*2,none⟩=some (.string (N k)):=(hbr.cell (p:=⟨lb,_,none⟩) hlb).trans c0;have e1:wr.cell? ⟨lb,lo+k*2+1,none⟩=some (.string (V k)):=(hbr.cell (p:=⟨lb,_,none⟩) hlb).trans c1;have bq:=(show Hid _ from hbr);have hwl:=hbr.size;clear hcs c0 c1 hbr;cases hq:((N k).toList==x.toList) with
   | true=>
    have hkm:k=m:=by
     rcases Nat.lt_or_ge k m with h | h
     ·have:=iL.out k h;rw[hq] at this;cases this
     ·omega
    have HR:Hid (E9 N V x n=V k):=by show _=_;rw[HV.out,<-hkm,if_pos hkn]
    clear HV iL HG2;obtain⟨t1,ht1⟩:∃ t1,N k=t1:=⟨_,rfl⟩;obtain⟨t2,ht2⟩:∃ t2,V k=t2:=⟨_,rfl⟩;rw[ht1] at e0 hq;rw[ht2] at e1 HR;clear ht1 ht2 hkm;go_wp2;go_ret;exact⟨by rw[HR.out];rfl,bq.out.alloc hwl _⟩
   | false=>
    have hkm:k<m:=by
     rcases Nat.lt_or_ge k m with h | h
     ·exact h
     ·exfalso;have hme:m=k:=by omega
      have:=HG2.out (by omega);rw[hme,hq] at this;cases this
    obtain⟨t1,ht1⟩:∃ t1,N k=t1:=⟨_,rfl⟩;obtain⟨t2,ht2⟩:∃ t2,V k=t2:=⟨_,rfl⟩;rw[ht1] at e0 hq;rw[ht2] at e1;clear ht1 ht2;go_wp2;go_roundw;case rel=>exact⟨k+1,by omega,by go_num,bq.out.alloc hwl _⟩
    case measure=>simp[intOf]<;>omega
  ·have hge:(n:Int)<=(k:Int):=by omega
   have HR:Hid (E9 N V x n=⟨#[]⟩):=by show _=_;rw[HV.out,if_neg (by omega)]
   have bq:=(show Hid _ from hbr);clear hbr HV;go_wp2;go_ret;exact⟨by rw[HR.out];rfl,bq.out⟩
theorem Xd (N V:Nat->ByteArray) (n:Nat) (hok:∀ i,i<n->jQ N V i=true):∀ j,j<n->∀ i,i<j->(N i).toList<(N j).toList:=by
 have step:∀ j,j+1<n->(N j).toList<(N (j+1)).toList:=fun j hj=>by
  have h:=hok (j+1) hj;unfold jQ at h;rw[Bool.and_eq_true] at h;have h2:=h.2;simp[OH] at h2;obtain⟨h3,h4⟩:=h2;rw[bytesLess_eq] at h3;have h5:¬ (N (j+1)).toList<(N j).toList:=of_decide_eq_false h3;rcases Std.Trichotomous.rel_or_eq_or_rel_swap (r:=(· < · : List UInt8->List UInt8->Prop)) (a:=(N j).toList) (b:=(N (j+1)).toList) with h6 | h6 | h6
  ·exact h6
  ·exact absurd h6.symm h4
  ·exact absurd h6 h5
 intro j;induction j with
 | zero=>intro _ i hi;omega
 | succ j ih=>
  intro hj i hi;rcases Nat.lt_or_ge i j with h | h
  ·exact List.lt_trans (ih (by omega) i h) (step j hj)
  ·have:i=j:=by omega
   rw[this];exact step j hj
theorem Xe (N V:Nat->ByteArray) (n:Nat) (x:ByteArray) (hok:∀ i,i<n->jQ N V i=true):E9 N V x n=lQ N V x n:=by
 obtain⟨g,g1,g2⟩:=kI (fun i=>!((N i).toList==x.toList)) n;unfold E9;generalize iF (fun i=>!((N i).toList==x.toList)) n=m at *;have none:∀ k,k<=m->lQ N V x k=⟨#[]⟩:=fun k=>by
  induction k with
  | zero=>intro _;rfl
  | succ k ih=>
   intro hk;have:=g1 k (by omega);rw[lQ,if_neg (by simpa using this)];exact ih (by omega)
 by_cases hmn:m<n
 ·rw[if_pos hmn];have hm:(N m).toList=x.toList:=by simpa using g2 hmn
  have up:∀ k,m<k->k<=n->lQ N V x k=V m:=fun k=>by
   induction k with
   | zero=>intro h;omega
   | succ k ih=>
    intro h1 h2;rw[lQ];rcases Nat.lt_or_ge m k with h | h
    ·have hl:=Xd N V n hok k (by omega) m h;rw[if_neg ?_]
     ·exact ih h (by omega)
     ·intro e;have e':(N k).toList=x.toList:=by simpa using e
      rw[hm,e'] at hl;exact List.lt_irrefl _ hl
    ·have:k=m:=by omega
     rw[this,if_pos (by simpa using hm)]
  exact (up n hmn (Nat.le_refl _)).symm
 ·rw[if_neg hmn];exact (none n (by omega)).symm
noncomputable def mC (K:Nat->Nat) (N:Nat->ByteArray) (n:Nat):Int:=if 6<n then 2 else if iF (nN K N) n<n then (if kindOk (K (iF (nN K N) n))=true then 4 else 11) else 0
noncomputable def mA (K:Nat->Nat) (N:Nat->ByteArray) (n:Nat):Int:=if 6<n then -1 else if iF (nN K N) n<n then (iF (nN K N) n:Int) else -1
theorem Mx (K:Nat->Nat) (N:Nat->ByteArray) (n:Nat):0<=mC K N n/\(mC K N n=0->n<=6/\∀ i,i<n->nN K N i=true):=by
 unfold mC;by_cases h6:6<n
 ·rw[if_pos h6];exact⟨by omega,fun h=>by omega⟩
 ·rw[if_neg h6];by_cases hb:iF (nN K N) n<n
  ·rw[if_pos hb];split
   ·exact⟨by omega,fun h=>by omega⟩
   ·exact⟨by omega,fun h=>by omega⟩
  ·rw[if_neg hb];obtain⟨g,g1,g2⟩:=kI (nN K N) n;have hbn:iF (nN K N) n=n:=by omega
   rw[hbn] at g1;exact⟨by omega,fun _=>⟨by omega,g1⟩⟩
end Go.Proofs.YtalliohkalnaeaaGreatDoor
namespace Go.Proofs.YtalliohkalnaeaaGreatDoor
open Go.RowKit aF
theorem aaf (w:World) (la:Option Addr) (n c:Nat) (hn:6<n) (hn2:(n:Int)<=9223372036854775807) (a:Addr) (hE:w.cell? ⟨0,0,none⟩=some (.iface 359 (.pointer (some a)))) :
  Calls Tryz.prog 26 #[.slice la n c] w fun e w'=>e = .returned (.iface 359 (.pointer (some a)))/\w'=w:=by
 have hd:decide ((6:Int)<(n:Int))=true:=by simp;omega
 go_enter Tryz.func26,Tryz.ntmps26;go_wp2;go_ret;exact⟨rfl,rfl⟩
def aeO (w w':World) (K:Nat->Nat) (m n:Nat) (aN aK:Addr) (e:Ending):Prop:=
 Below w.heap.size w w'/\((m=n/\e = .returned .nilIface)\/(m<n/\∃ pb:Nat,e = .returned (.iface 112 (.pointer (some ⟨pb,0,none⟩)))/\w'.cell? ⟨pb,0,none⟩=some (.int .i64 (m:Int))/\w'.cell? ⟨pb,1,none⟩=some (.iface 359 (.pointer (some (if kindOk (K m)=true then aN else aK))))))
theorem acE (w:World) (la:Option Addr) (n c:Nat) (K:Nat->Nat) (N V:Nat->ByteArray) (hP:nS w la n K N V) (hsz:∀ i,i<n->(N i).size<=1000000) (hn:n<=6) (m:Nat) (hm:m<=n) (hok:∀ i,i<m->nN K N i=true) (hbad:m<n->nN K N m=false)
  (aN aK:Addr) (BG:w.cell? ⟨4,0,none⟩=some (.iface 359 (.pointer (some aN)))) (hEK:w.cell? ⟨3,0,none⟩=some (.iface 359 (.pointer (some aK)))) :
  Calls Tryz.prog 26 #[.slice la n c] w fun e w'=>aeO w w' K m n aN aK e:=by
 have HP:Hid (nS w la n K N V):=hP;have fD:=(show Hid _ from hok);have HBAD:=(show Hid _ from hbad);have fZ:=(show Hid _ from hsz);have qC:=(show Hid _ from BG);have HEK:=(show Hid _ from hEK);have hGN:4<w.heap.size:=World.block_lt_of_cell? w ⟨4,0,none⟩ BG;have hGK:3<w.heap.size:=World.block_lt_of_cell? w ⟨3,0,none⟩ hEK;have hd:decide ((6:Int)<(n:Int))=false:=by simp;omega
 clear hP hok hbad BG hEK hsz;go_enter Tryz.func26,Tryz.ntmps26;go_wp2_with fail;go_loopw [3,4,11] (fun _ _ i wr=>∃ k:Nat,k<=m/\i = .int .i64 k/\Below w.heap.size w wr) (fun _ _ i _=>n-(intOf i).toNat);case atStart=>exact⟨0,Nat.zero_le _,rfl,Below.refl _ _⟩
 case round=>
  obtain⟨k,hk,rfl,hbr⟩:=hrel;by_cases hkn:k<n
  ·obtain⟨lb,lo,rfl,hcs⟩:=HP.out.at k hkn;obtain⟨c0,c1,c2,YK⟩:=hcs k hkn;have hlb:lb<w.heap.size:=World.block_lt_of_cell? w ⟨lb,_,none⟩ c0;have hk0:(0:Int)<=(k:Int):=by omega
   have hk1:(k:Int)<(n:Int):=by omega
   have e0:wr.cell? ⟨lb,lo+k*3,none⟩=some (.int .u8 (K k:Int)):=(hbr.cell (p:=⟨lb,_,none⟩) hlb).trans c0;have e1:wr.cell? ⟨lb,lo+k*3+1,none⟩=some (.string (N k)):=(hbr.cell (p:=⟨lb,_,none⟩) hlb).trans c1;have e2:wr.cell? ⟨lb,lo+k*3+2,none⟩=some (.string (V k)):=(hbr.cell (p:=⟨lb,_,none⟩) hlb).trans c2;have bq:=(show Hid _ from hbr);have hwl:=hbr.size;have gN:wr.cell? ⟨4,0,none⟩=some (.iface 359 (.pointer (some aN))):=(hbr.cell (p:=⟨4,0,none⟩) hGN).trans qC.out;have gK:wr.cell? ⟨3,0,none⟩=some (.iface 359 (.pointer (some aK))):=(hbr.cell (p:=⟨3,0,none⟩) hGK).trans HEK.out;have hG1:4<wr.heap.size:=by omega
   have hG7:3<wr.heap.size:=by omega
   have hin:=fun w0=>DL (N k) w0 (fZ.out k hkn)
   have hpk:nN K N k=(kindOk (K k)&&isName (N k)):=rfl;obtain⟨bn,hbn⟩:∃ bn,isName (N k)=bn:=⟨_,rfl⟩;rw[hbn] at hin hpk;have pE:=(show Hid _ from hin);have kM:=(show Hid _ from hpk);clear hin hpk hbn hbr c0 c1 c2 hcs;obtain⟨kk,hkk⟩:∃ kk,K k=kk:=⟨_,rfl⟩;rw[hkk] at e0 YK kM;have HKK:=(show Hid _ from hkk);have Lb:Hid (kindOk kk=decide (kk=61\/kk=33\/kk=126)):=rfl;clear hkk;obtain⟨t1,ht1⟩:∃ t1,N k=t1:=⟨_,rfl⟩;obtain⟨t2,ht2⟩:∃ t2,V k=t2:=⟨_,rfl⟩;rw[ht1] at e1 pE;rw[ht2] at e2;clear ht1 ht2;cases hkind:kindOk kk with
   | false=>
    have hkm:k=m:=by
     rcases Nat.lt_or_ge k m with h | h
     ·have:=fD.out k h;rw[kM.out,hkind] at this;cases this
     ·omega
    subst hkm;have oL:Hid ((if kindOk (K k)=true then aN else aK)=aK):=by show _=_;rw[HKK.out,hkind];rfl
    have hno:¬ (kk=61\/kk=33\/kk=126):=by rw[Lb.out] at hkind;exact of_decide_eq_false hkind
    have d1:((kk:Int) != 61)=true:=by rw[bne_iff_ne];omega
    have d2:((kk:Int) != 33)=true:=by rw[bne_iff_ne];omega
    have d3:((kk:Int) != 126)=true:=by rw[bne_iff_ne];omega
    clear hkind hno;go_wp2;go_ret;exact⟨(bq.out.alloc hwl _).alloc (by simp;omega) _,.inr ⟨hkn,wr.heap.size+1,by simp,(lZ (by simp) 0).trans (by simp),(lZ (by simp) 1).trans (by rw[oL.out];simp)⟩⟩
   | true=>
    have hyes:kk=61\/kk=33\/kk=126:=by rw[Lb.out] at hkind;exact of_decide_eq_true hkind
    have HKN:=(show Hid _ from hkind);clear hkind;have hgo:∀ (P:Prop),(∀ d1 d2 d3:Bool,((kk:Int) != 61)=d1->((kk:Int) != 33)=d2->((kk:Int) != 126)=d3->(d1=false\/(d1=true/\d2=false)\/(d1=true/\d2=true/\d3=false))->P)->P:=fun P h=>by
     refine h _ _ _ rfl rfl rfl ?_;rcases hyes with rfl | rfl | rfl
     ·exact .inl rfl
     ·exact .inr (.inl ⟨rfl,rfl⟩)
     ·exact .inr (.inr ⟨rfl,rfl,rfl⟩)
    refine hgo _ ?_;intro d1 d2 d3 q1 q2 q3 hd3;clear hyes hgo;cases bn with
    | false=>
     have hkm:k=m:=by
      rcases Nat.lt_or_ge k m with h | h
      ·have:=fD.out k h;rw[kM.out,Bool.and_false] at this;cases this
      ·omega
     subst hkm;have oL:Hid ((if kindOk (K k)=true then aN else aK)=aN):=by show _=_;rw[HKK.out,HKN.out];rfl
     rcases hd3 with h | ⟨h,h'⟩|⟨h,h',h''⟩<;>subst_vars<;>
     ·go_wp2_with fail;refine Calls.mono (pE.out _) ?_;rintro e w1 ⟨rfl,hw1⟩;have bF:=hw1;subst bF;go_wp2;go_ret;exact⟨(bq.out.alloc hwl _).alloc (by simp;omega) _,.inr ⟨hkn,wr.heap.size+1,by simp,(lZ (by simp) 0).trans (by simp),(lZ (by simp) 1).trans (by rw[oL.out];simp)⟩⟩
    | true=>
     have hkm:k<m:=by
      rcases Nat.lt_or_ge k m with h | h
      ·exact h
      ·exfalso;have hme:m=k:=by omega
       have:=HBAD.out (by omega);rw[hme,kM.out,HKN.out] at this;cases this
     rcases hd3 with h | ⟨h,h'⟩|⟨h,h',h''⟩<;>subst_vars<;>
     ·go_wp2_with fail;refine Calls.mono (pE.out _) ?_;rintro e w1 ⟨rfl,hw1⟩;have bF:=hw1;subst bF;go_wp2;go_roundw;case rel=>exact⟨k+1,by omega,by go_num,bq.out.alloc hwl _⟩
      case measure=>simp[intOf]<;>omega
  ·have hkm:k=m:=by omega
   have hmn:m=n:=by omega
   have hge:(n:Int)<=(k:Int):=by omega
   have bq:=(show Hid _ from hbr);clear hbr;go_wp2;go_ret;exact⟨bq.out,.inl ⟨hmn,rfl⟩⟩
theorem acG {B:Nat} {ea:Nat->Addr} (w:World) (E:Ad B ea w) (la:Option Addr) (n c:Nat) (K:Nat->Nat) (N V:Nat->ByteArray) (hP:nS w la n K N V) (hsz:∀ i,i<n->(N i).size<=1000000) (hn:(n:Int)<=9223372036854775807) :
  Calls Tryz.prog 26 #[.slice la n c] w fun e w'=>∃ v,e = .returned v/\Below w.heap.size w w'/\aY ea w' v (mC K N n) (mA K N n):=by
 by_cases h6:6<n
 ·refine (aaf w la n c h6 hn (ea 1) E.c1).mono ?_;rintro e w' ⟨rfl,rfl⟩;exact⟨_,rfl,Below.refl _ _,.inr (.inl ⟨1,by omega,rfl,by unfold mC;rw[if_pos h6];rfl,by unfold mA;rw[if_pos h6]⟩)⟩
 ·obtain⟨g,g1,g2⟩:=kI (nN K N) n;refine (acE w la n c K N V hP hsz (by omega) _ g g1 g2 (ea 3) (ea 10) E.c3 E.c10).mono ?_;rintro e w' ⟨hb,⟨hmn,rfl⟩|⟨hmn,pb,rfl,p0,p1⟩⟩
  ·exact⟨_,rfl,hb,.inl ⟨rfl,by unfold mC;rw[if_neg h6,if_neg (by omega)]⟩⟩
  ·refine⟨_,rfl,hb,.inr (.inr ?_)⟩;unfold mC mA;rw[if_neg h6,if_pos hmn,if_neg h6,if_pos hmn];by_cases hq:kindOk (K (iF (nN K N) n))=true
   ·rw[if_pos hq] at p1 ⊢;exact⟨pb,3,by omega,rfl,p0,p1,rfl⟩
   ·rw[if_neg hq] at p1 ⊢;exact⟨pb,10,by omega,rfl,p0,p1,rfl⟩
theorem Uq (v:ByteArray) (k:Nat) (x y:ByteArray) (w:World) (hk:kindOk k=true) :
  Calls Tryz.prog 90 #[.string v,.agg #[.int .u8 (k:Int),.string x,.string y]] w fun e w'=>e = .returned (.bool (yA k v y))/\Below w.heap.size w w':=by
 have hyes:k=61\/k=33\/k=126:=of_decide_eq_true hk;have HB:Hid (Below w.heap.size w (w.alloc (.cells #[.int .u8 (k:Int),.string x,.string y] 111))):=(Below.refl _ _).alloc (Nat.le_refl _) _;have Gp:Hid _:=fun w0=>Kh v y w0
 rcases hyes with rfl | rfl | rfl
 ·have HF:Hid (yA 61 v y=(v.toList==y.toList)):=rfl;clear hk;go_enter Tryz.func90,Tryz.ntmps90;go_wp2;go_ret;exact⟨by rw[HF.out];rfl,HB.out⟩
 ·have HF:Hid (yA 33 v y = !(v.toList==y.toList)):=rfl;clear hk;go_enter Tryz.func90,Tryz.ntmps90;go_wp2;go_ret;exact⟨by rw[HF.out];rfl,HB.out⟩
 ·have HF:Hid (yA 126 v y=(decide (y.size<=v.size)&&((v.extract 0 y.size).toList==y.toList))):=rfl;clear hk;go_enter Tryz.func90,Tryz.ntmps90;go_wp2_with fail;refine Calls.mono (Gp.out _) ?_;rintro e w1 ⟨rfl,hw1⟩;have bF:=hw1;subst bF;go_wp2;go_ret;exact⟨by rw[HF.out];rfl,HB.out⟩
def Fa (ea:Nat->Addr) (w w':World) (N V:Nat->ByteArray) (n:Nat) (K:Nat->Nat) (X Y:Nat->ByteArray) (m:Nat) (e:Ending):Prop:=
 Below w.heap.size w w'/\∃ (b:Bool) (v:Value),e = .returned (.tuple #[.bool b,v]) /\
  ((0<fC N V n/\b=false/\aY ea w' v (fC N V n) (fA N V n))\/(fC N V n=0/\0<mC K X m/\b=false/\aY ea w' v (mC K X m) (mA K X m))\/(fC N V n=0/\mC K X m=0/\b=pF N V n K X Y m/\v = .nilIface))
theorem aY.some {ea:Nat->Addr} {w:World} {v:Value} {C A:Int} (h:aY ea w v C A) (hC:0<C):(∃ q,v = .iface 359 (.pointer (some q)))\/∃ q,v = .iface 112 (.pointer (some q)):=by
 rcases h with⟨_,h⟩|⟨m,_,h,_⟩|⟨pb,m,_,h,_⟩
 ·omega
 ·exact .inl ⟨_,h⟩
 ·exact .inr ⟨_,h⟩
end Go.Proofs.YtalliohkalnaeaaGreatDoor
namespace Go.Proofs.YtalliohkalnaeaaGreatDoor
open Go.RowKit aF
theorem aag {B:Nat} {ea:Nat->Addr} (w:World) (E:Ad B ea w) (hB:B<=w.heap.size) (la lm:Option Addr) (n c m cm:Nat) (N V:Nat->ByteArray) (K:Nat->Nat) (X Y:Nat->ByteArray) (hL:qU w la n N V) (hM:nS w lm m K X Y)
  (hsz:∀ i,i<n->(N i).size<=1000000/\(V i).size<=1000000) (hsx:∀ i,i<m->(X i).size<=1000000) (hn:(n:Int)<=9223372036854775807) (hm:(m:Int)<=9223372036854775807) :
  Calls Tryz.prog 53 #[.slice la n c,.slice lm m cm] w fun e w'=>Fa ea w w' N V n K X Y m e:=by
 have nW:Hid _:=Wo w E la n c N V hL hsz hn;have HE:=(show Hid _ from E);have HL:Hid (qU w la n N V):=hL;have HM:Hid (nS w lm m K X Y):=hM;have MB:=(show Hid _ from hsx);have hC0:=(Ac N V n).1;have HCZ:=(show Hid _ from (Ac N V n).2);have hM0:=(Mx K X m).1;have HMZ:=(show Hid _ from (Mx K X m).2);have SN:=(show Hid _ from fun (w0:World) (h0:Below w.heap.size w w0)=>acG w0 (E.below h0 hB) lm m cm K X Y (by
  rcases hM with h | ⟨b,o,h,hc⟩
  ·exact .inl h
  ·refine .inr ⟨b,o,h,fun k hk=>?_⟩;obtain⟨q0,q1,q2,q3⟩:=hc k hk;have hl:b<w.heap.size:=World.block_lt_of_cell? w ⟨b,_,none⟩ q0;exact⟨(h0.cell (p:=⟨b,_,none⟩) hl).trans q0,(h0.cell (p:=⟨b,_,none⟩) hl).trans q1,(h0.cell (p:=⟨b,_,none⟩) hl).trans q2,q3⟩) hsx hm)
 unfold Fa;obtain⟨C,hC⟩:∃ C,fC N V n=C:=⟨_,rfl⟩;obtain⟨A,hA⟩:∃ A,fA N V n=A:=⟨_,rfl⟩;obtain⟨C2,hC2⟩:∃ C2,mC K X m=C2:=⟨_,rfl⟩;obtain⟨A2,hA2⟩:∃ A2,mA K X m=A2:=⟨_,rfl⟩;rw[hC] at nW hC0 HCZ ⊢;rw[hA] at nW ⊢;rw[hC2] at SN hM0 HMZ ⊢;rw[hA2] at SN ⊢;clear hC hA hC2 hA2 hL hM hsz hsx E;go_enter Tryz.func53,Tryz.ntmps53;go_wp2_with fail;refine Calls.mono nW.out ?_;rintro e w1 ⟨v,rfl,hb1,mD⟩;have HB1:=(show Hid _ from hb1);have l7:=(show Hid _ from mD);by_cases hCp:0<C
 ·rcases mD.some hCp with⟨q,rfl⟩|⟨q,rfl⟩<;>
  ·clear hb1 mD;go_wp2;go_ret2;exact⟨HB1.out,_,_,rfl,.inl ⟨hCp,rfl,l7.out⟩⟩
 ·have YL:C=0:=by omega
  have hv:=mD.none YL;subst hv;have xX:=(show Hid _ from SN.out w1 hb1);clear hb1 mD l7;go_wp2_with fail;refine Calls.mono xX.out ?_;rintro e w2 ⟨v,rfl,hb2,mD⟩;have HB2:=(show Hid _ from HB1.out.trans (hb2.mono HB1.out.size));have l7:=(show Hid _ from mD);clear xX;by_cases hMp:0<C2
  ·rcases mD.some hMp with⟨q,rfl⟩|⟨q,rfl⟩<;>
   ·clear hb2 mD;go_wp2;go_ret2;exact⟨HB2.out,_,_,rfl,.inr (.inl ⟨YL,hMp,rfl,l7.out⟩)⟩
  ·have hMe:C2=0:=by omega
   have hv:=mD.none hMe;subst hv;clear hb2 mD l7;have hz:=HCZ.out YL;have hy:=HMZ.out hMe;have YG:Hid (∀ x,E9 N V x n=lQ N V x n):=fun x=>Xe N V n x hz.2.2.2
   have ahz:Hid (∀ i,i<m->kindOk (K i)=true):=fun i hi=>by
    have:=hy.2 i hi;unfold nN at this;rw[Bool.and_eq_true] at this;exact this.1
   have Ur:n<=6:=hz.2.1;have hm6:m<=6:=hy.1;clear hz hy HCZ HMZ;go_wp2_with fail;go_loopw [9,22,23] (fun _ i _ wr=>∃ k:Nat,k<=m/\i = .int .i64 k/\Below w.heap.size w wr/\pF N V n K X Y k=true) (fun _ i _ _=>m-(intOf i).toNat);case atStart=>exact⟨0,Nat.zero_le _,rfl,HB2.out,rfl⟩
   case round=>
    obtain⟨k,hk,rfl,hbr,hft⟩:=hrel;have bq:=(show Hid _ from hbr);have OU:=(show Hid _ from hft);have hwl:=hbr.size;by_cases hkn:k<m
    ·obtain⟨lb,lo,rfl,hcs⟩:=HM.out.at k hkn;obtain⟨c0,c1,c2,YK⟩:=hcs k hkn;have hlb:lb<w.heap.size:=World.block_lt_of_cell? w ⟨lb,_,none⟩ c0;have hk0:(0:Int)<=(k:Int):=by omega
     have hk1:(k:Int)<(m:Int):=by omega
     have e0:wr.cell? ⟨lb,lo+k*3,none⟩=some (.int .u8 (K k:Int)):=(hbr.cell (p:=⟨lb,_,none⟩) hlb).trans c0;have e1:wr.cell? ⟨lb,lo+k*3+1,none⟩=some (.string (X k)):=(hbr.cell (p:=⟨lb,_,none⟩) hlb).trans c1;have e2:wr.cell? ⟨lb,lo+k*3+2,none⟩=some (.string (Y k)):=(hbr.cell (p:=⟨lb,_,none⟩) hlb).trans c2;obtain⟨W,hW⟩:∃ W,W=wr.alloc (.cells #[.int .u8 (K k:Int),.string (X k),.string (Y k)] 111):=⟨_,rfl⟩;have hWb:Below wr.heap.size wr W:=by rw[hW];exact (Below.refl _ _).alloc (Nat.le_refl _) _
     have MC:W.heap[wr.heap.size]? = some (.cells #[.int .u8 (K k:Int),.string (X k),.string (Y k)] 111 (0,0)):=by rw[hW];exact heap_alloc_new _ _
     have Pf:wr.heap.size<W.heap.size:=by rw[hW];simp
     have YM:Hid (Below w.heap.size w W):=hbr.trans (hWb.mono hwl);have k0:W.cell? ⟨wr.heap.size,0,none⟩=some (.int .u8 (K k:Int)):=by simp[World.cell?,MC]
     have k1:W.cell? ⟨wr.heap.size,1,none⟩=some (.string (X k)):=by simp[World.cell?,MC]
     have k2:W.cell? ⟨wr.heap.size,2,none⟩=some (.string (Y k)):=by simp[World.cell?,MC]
     have HS:Hid (∀ w0,Below W.heap.size W w0->w0.cell? ⟨wr.heap.size,0,none⟩=some (.int .u8 (K k:Int))/\w0.cell? ⟨wr.heap.size,1,none⟩=some (.string (X k))/\w0.cell? ⟨wr.heap.size,2,none⟩=some (.string (Y k))):=fun w0 h=>⟨(h.cell (p:=⟨wr.heap.size,0,none⟩) Pf).trans (by simp[World.cell?,MC]),(h.cell (p:=⟨wr.heap.size,1,none⟩) Pf).trans (by simp[World.cell?,MC]),(h.cell (p:=⟨wr.heap.size,2,none⟩) Pf).trans (by simp[World.cell?,MC])⟩
     have HVO:Hid (∀ w0,Below W.heap.size W w0->Calls Tryz.prog 91 #[.slice la n c,.string (X k)] w0 fun e w'=>e = .returned (.string (lQ N V (X k) n))/\(w'.cell? ⟨wr.heap.size,0,none⟩=some (.int .u8 (K k:Int))/\w'.cell? ⟨wr.heap.size,1,none⟩=some (.string (X k))/\w'.cell? ⟨wr.heap.size,2,none⟩=some (.string (Y k)))/\Below W.heap.size W w'):=fun w0 h=>by
      have hw0:Below w.heap.size w w0:=YM.out.trans (h.mono YM.out.size);have hc:=Ot w0 la n c N V (HL.out.below hw0) (by omega) (X k);rw[YG.out] at hc;refine hc.mono ?_;rintro e w' ⟨rfl,hb⟩;have h2:=h.trans (hb.mono h.size);exact⟨rfl,HS.out w' h2,h2⟩
     have zm:Hid (∀ w0,Below W.heap.size W w0->Calls Tryz.prog 90 #[.string (lQ N V (X k) n),.agg #[.int .u8 (K k:Int),.string (X k),.string (Y k)]] w0 fun e w'=>e = .returned (.bool (yA (K k) (lQ N V (X k) n) (Y k)))/\(w'.cell? ⟨wr.heap.size,0,none⟩=some (.int .u8 (K k:Int))/\w'.cell? ⟨wr.heap.size,1,none⟩=some (.string (X k))/\w'.cell? ⟨wr.heap.size,2,none⟩=some (.string (Y k)))/\Below W.heap.size W w'):=fun w0 h=>by
      refine (Uq (lQ N V (X k) n) (K k) (X k) (Y k) w0 (ahz.out k hkn)).mono ?_;rintro e w' ⟨rfl,hb⟩;have h2:=h.trans (hb.mono h.size);exact⟨rfl,HS.out w' h2,h2⟩
     have HW:=(show Hid _ from hW);have Mk:Hid (Below W.heap.size W W):=Below.refl _ _;have hst:pF N V n K X Y (k+1)=(pF N V n K X Y k&&yA (K k) (lQ N V (X k) n) (Y k)):=rfl;rw[hft,Bool.true_and] at hst;have HST:=(show Hid _ from hst);have wD:Hid (yA (K k) (lQ N V (X k) n) (Y k)=false->pF N V n K X Y m=false):=fun h=>OJ N V n K X Y k h m hkn
     generalize yA (K k) (lQ N V (X k) n) (Y k)=bf at *;generalize lQ N V (X k) n=vv at *;generalize K k=kk at *;generalize X k=xx at *;generalize Y k=yy at *;clear hcs c0 c1 c2 hbr hft hW hWb MC Pf hst;go_wp2_with fail;rw[<-HW.out];go_region_held3 (fun w'=>w'.cell? ⟨wr.heap.size,0,none⟩=some (.int .u8 (kk:Int))/\w'.cell? ⟨wr.heap.size,1,none⟩=some (.string xx)/\w'.cell? ⟨wr.heap.size,2,none⟩=some (.string yy)) (go_keep) ((first | (go_at_call 91;refine Calls.mono (HVO.out _ (by first | exact Mk.out | exact Mk.out.trans ⟨rfl,rfl,rfl,Nat.le_refl _,fun _ _=>rfl⟩)) ?_;rintro e w7 ⟨rfl,⟨k0,k1,k2⟩,hc7⟩;have Yp:=(show Hid _ from hc7);clear hc7 HVO) | (go_at_call 90;refine Calls.mono (zm.out _ (by first | exact Yp.out | exact Yp.out.trans ⟨rfl,rfl,rfl,Nat.le_refl _,fun _ _=>rfl⟩)) ?_;rintro e w8 ⟨rfl,⟨k0,k1,k2⟩,hc8⟩;have HC8:=(show Hid _ from hc8);clear hc8 zm)));have HB8:Hid (Below w.heap.size w w8):=YM.out.trans (HC8.out.mono YM.out.size);cases bf with
     | true=>
      go_wp2;go_roundw;case rel=>exact⟨k+1,by omega,by go_num,HB8.out,HST.out⟩
      case measure=>simp[intOf]<;>omega
     | false=>
      have hno:=wD.out rfl;have rJ:=(show Hid _ from hno);clear hno;go_wp2;go_ret2;exact⟨HB8.out,by rw[rJ.out];rfl⟩
    ·have hge:(m:Int)<=(k:Int):=by omega
     have hkm:k=m:=by omega
     have YN:Hid (pF N V n K X Y m=true):=by rw[<-hkm];exact hft
     clear hbr hft OU hkm;go_wp2;go_ret2;exact⟨bq.out,_,_,rfl,.inr (.inr ⟨YL,hMe,by rw[YN.out],rfl⟩)⟩
end Go.Proofs.YtalliohkalnaeaaGreatDoor
