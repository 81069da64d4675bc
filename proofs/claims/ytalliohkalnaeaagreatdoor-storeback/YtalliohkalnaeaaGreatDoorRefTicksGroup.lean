import Derived.Test.YtalliohkalnaeaaGreatDoorRefUnwave
import Derived.Test.YtalliohkalnaeaaGreatDoorSlicesIn
import Derived.Deep.QuietTactic
import Derived.BigQuiet
import Derived.Test.YtalliohkalnaeaaGreatDoorBitMathGroup
import Derived.Test.YtalliohkalnaeaaGreatDoorRefsGroup
import Derived.Lib.Builder
import Derived.Lib.AppendStr
import Derived.Lib.UnsafeStr
import Derived.Laws.Externs
import Derived.Deep.RegionHeld3
set_option maxRecDepth 1000000
set_option maxHeartbeats 2000000
namespace Go.Proofs.YtalliohkalnaeaaGreatDoor
open Go.RowKit
def dJ (t:Int):Bool:=decide (-1099511627776<=t)&&decide (t<=1099511627776)
theorem jP (t:Int):dJ t=true ↔ -1099511627776<=t/\t<=1099511627776:=by simp[dJ]
end Go.Proofs.YtalliohkalnaeaaGreatDoor
namespace Go.Proofs.YtalliohkalnaeaaGreatDoor
open Go.RowKit
def ig (T:Nat->Int) (i:Nat):Bool:=dJ (T i)&&(decide (i=0)||decide (T (i-1)<T i))
theorem NI (w:World) (a b:Option Addr) (n ca cb:Nat) (T:Nat->Int) (B:Nat->Nat) (ha:qR w a n T B) (hb:qR w b n T B) (hn:(n:Int)<=100000) :
  Calls Tryz.prog 17 #[.slice a n ca,.slice b n cb] w fun e w'=>e = .returned (.bool true)/\∃ q,w'=w.drewN q:=by
 have HA:Hid (qR w a n T B):=ha;have HB:Hid (qR w b n T B):=hb;clear ha hb;go_enter Tryz.func17,Tryz.ntmps17;go_wp2_with fail;go_loopw [4,5] (fun s4 i wr=>s4 = .bool false/\∃ k q:Nat,k<=n/\i = .int .i64 k/\wr=w.drewN q) (fun _ i _=>n-(intOf i).toNat);case atStart=>exact⟨rfl,0,0,Nat.zero_le _,rfl,rfl⟩
 case round=>
  obtain⟨rfl,k,q,hk,rfl,rfl⟩:=hrel;by_cases hlt:k<n
  ·obtain⟨b1,o1,rfl,h1⟩:=HA.out.at k hlt;obtain⟨b2,o2,rfl,h2⟩:=HB.out.at k hlt;obtain⟨hc1,hd1,_⟩:=h1 k hlt;obtain⟨hc2,hd2,_⟩:=h2 k hlt;have hk0:(0:Int)<=(k:Int):=by omega
   have hk1:(k:Int)<(n:Int):=by omega
   generalize T k=t at *;generalize B k=v at *;clear h1 h2;go_wp2_with fail;go_quiet (fail);go_wp2;go_roundw;case rel=>exact⟨rfl,k+1,_,by omega,by go_num,by first | rfl | (rw[World.drewN_drewN])⟩
   case measure=>simp[intOf]<;>omega
  ·have hge:(n:Int)<=(k:Int):=by omega
   go_wp2;go_ret;exact⟨rfl,q,rfl⟩
end Go.Proofs.YtalliohkalnaeaaGreatDoor
namespace Go.Proofs.YtalliohkalnaeaaGreatDoor
open Go.RowKit aF
theorem below_draws {b:Nat} {w w':World} (h:Below b w w') (q:Nat):Below b w (w'.drewN q):=h.trans ⟨rfl,rfl,rfl,Nat.le_refl _,fun _ _=>rfl⟩
def qU (w:World) (a:Option Addr) (n:Nat) (N V:Nat->ByteArray):Prop:=
 n=0\/∃ b o,a=some ⟨b,o,none⟩/\∀ k,k<n->w.cell? ⟨b,o+k*2,none⟩=some (.string (N k))/\w.cell? ⟨b,o+k*2+1,none⟩=some (.string (V k))
theorem qU.at {w:World} {a:Option Addr} {n:Nat} {N V:Nat->ByteArray} (h:qU w a n N V) (k:Nat) (hk:k<n) :
  ∃ b o,a=some ⟨b,o,none⟩/\∀ k,k<n->w.cell? ⟨b,o+k*2,none⟩=some (.string (N k))/\w.cell? ⟨b,o+k*2+1,none⟩=some (.string (V k)):=by
 rcases h with h | h
 ·omega
 ·exact h
theorem qU.below {w w':World} {a:Option Addr} {n:Nat} {N V:Nat->ByteArray} (h:qU w a n N V) (hb:Below w.heap.size w w'):qU w' a n N V:=by
 rcases h with h | ⟨b,o,h,hc⟩
 ·exact .inl h
 ·refine .inr ⟨b,o,h,fun k hk=>?_⟩;obtain⟨h1,h2⟩:=hc k hk;have hl:b<w.heap.size:=World.block_lt_of_cell? w ⟨b,_,none⟩ h1;exact⟨(hb.cell (p:=⟨b,_,none⟩) hl).trans h1,(hb.cell (p:=⟨b,_,none⟩) hl).trans h2⟩
def OH (a b:ByteArray):Bool:=Op.bytesLess a.toList b.toList||a.toList==b.toList
def jQ (N V:Nat->ByteArray) (i:Nat):Bool:=(isName (N i)&&isWord (V i))&&(decide (i=0) || !OH (N i) (N (i-1)))
end Go.Proofs.YtalliohkalnaeaaGreatDoor
namespace Go.Proofs.YtalliohkalnaeaaGreatDoor
open Go.RowKit aF
theorem lZ {W:World} {C:Array Value} {t:TypeId} {s:Nat} (hs:W.heap.size=s) (i:Nat):(W.alloc (.cells C t)).cell? ⟨s,i,none⟩=C[i]?:=by
 subst hs;have hb:(W.alloc (.cells C t)).heap[W.heap.size]? = some (.cells C t (0,0)):=heap_alloc_new _ _;simp only[World.cell?,hb];exact if_neg (by decide)
def Zy (w w':World) (N V:Nat->ByteArray) (m n:Nat) (aN aS:Addr) (e:Ending):Prop:=
 Below w.heap.size w w'/\((m=n/\e = .returned .nilIface)\/(m<n/\∃ pb:Nat,e = .returned (.iface 112 (.pointer (some ⟨pb,0,none⟩)))/\w.heap.size<=pb/\w'.cell? ⟨pb,0,none⟩=some (.int .i64 (m:Int))/\w'.cell? ⟨pb,1,none⟩=some (.iface 359 (.pointer (some (if (isName (N m)&&isWord (V m))=true then aS else aN))))))
theorem NJ (w:World) (la:Option Addr) (c:Nat) (a:Addr) (hE:w.cell? ⟨6,0,none⟩=some (.iface 359 (.pointer (some a)))) :
  Calls Tryz.prog 80 #[.slice la 0 c] w fun e w'=>e = .returned (.iface 359 (.pointer (some a)))/\w'=w:=by
 go_enter Tryz.func80,Tryz.ntmps80;go_wp2;go_ret;exact⟨rfl,rfl⟩
theorem DN (w:World) (la:Option Addr) (n c:Nat) (hn:6<n) (hn2:(n:Int)<=9223372036854775807) (a:Addr) (hE:w.cell? ⟨0,0,none⟩=some (.iface 359 (.pointer (some a)))) :
  Calls Tryz.prog 80 #[.slice la n c] w fun e w'=>e = .returned (.iface 359 (.pointer (some a)))/\w'=w:=by
 have hd:decide ((6:Int)<(n:Int))=true:=by simp;omega
 have hd0:((n:Int)==0)=false:=by rw[beq_eq_false_iff_ne];omega
 go_enter Tryz.func80,Tryz.ntmps80;go_wp2;go_ret;exact⟨rfl,rfl⟩
theorem FD (w:World) (la:Option Addr) (n c:Nat) (N V:Nat->ByteArray) (hP:qU w la n N V) (hsz:∀ i,i<n->(N i).size<=1000000/\(V i).size<=1000000) (h0:1<=n) (hn:n<=6) (m:Nat) (hm:m<=n) (hok:∀ i,i<m->jQ N V i=true) (hbad:m<n->jQ N V m=false)
  (aN aS:Addr) (BG:w.cell? ⟨4,0,none⟩=some (.iface 359 (.pointer (some aN)))) (hES:w.cell? ⟨7,0,none⟩=some (.iface 359 (.pointer (some aS)))) :
  Calls Tryz.prog 80 #[.slice la n c] w fun e w'=>Zy w w' N V m n aN aS e:=by
 have HP:Hid (qU w la n N V):=hP;have fD:=(show Hid _ from hok);have HBAD:=(show Hid _ from hbad);have fZ:=(show Hid _ from hsz);have qC:=(show Hid _ from BG);have XY:=(show Hid _ from hES);have hGN:4<w.heap.size:=World.block_lt_of_cell? w ⟨4,0,none⟩ BG;have hGS:7<w.heap.size:=World.block_lt_of_cell? w ⟨7,0,none⟩ hES;have hd:decide ((6:Int)<(n:Int))=false:=by simp;omega
 have hd0:((n:Int)==0)=false:=by rw[beq_eq_false_iff_ne];omega
 clear hP hok hbad BG hES hsz;go_enter Tryz.func80,Tryz.ntmps80;go_wp2_with fail;go_loopw [3,4,15] (fun _ _ i wr=>∃ k:Nat,k<=m/\i = .int .i64 k/\Below w.heap.size w wr) (fun _ _ i _=>n-(intOf i).toNat);case atStart=>exact⟨0,Nat.zero_le _,rfl,Below.refl _ _⟩
 case round=>
  obtain⟨k,hk,rfl,hbr⟩:=hrel;by_cases hkn:k<n
  ·obtain⟨lb,lo,rfl,hcs⟩:=HP.out.at k hkn;obtain⟨c0,c1⟩:=hcs k hkn;have hlb:lb<w.heap.size:=World.block_lt_of_cell? w ⟨lb,_,none⟩ c0;have hk0:(0:Int)<=(k:Int):=by omega
   have hk1:(k:Int)<(n:Int):=by omega
   have e0:wr.cell? ⟨lb,lo+k*2,none⟩=some (.string (N k)):=(hbr.cell (p:=⟨lb,_,none⟩) hlb).trans c0;have e1:wr.cell? ⟨lb,lo+k*2+1,none⟩=some (.string (V k)):=(hbr.cell (p:=⟨lb,_,none⟩) hlb).trans c1;have bq:=(show Hid _ from hbr);have hwl:=hbr.size;have hlw:lb≠wr.heap.size:=by omega
   have gN:wr.cell? ⟨4,0,none⟩=some (.iface 359 (.pointer (some aN))):=(hbr.cell (p:=⟨4,0,none⟩) hGN).trans qC.out;have gS:wr.cell? ⟨7,0,none⟩=some (.iface 359 (.pointer (some aS))):=(hbr.cell (p:=⟨7,0,none⟩) hGS).trans XY.out;have hG1:4<wr.heap.size:=by omega
   have hG7:7<wr.heap.size:=by omega
   have hin:=fun w0=>DL (N k) w0 (fZ.out k hkn).1
   have hiw:=fun w0=>BF (V k) w0 (fZ.out k hkn).2
   have hpk:jQ N V k=((isName (N k)&&isWord (V k))&&(decide (k=0) || !OH (N k) (N (k-1)))):=rfl;have oL:Hid ((if (isName (N k)&&isWord (V k))=true then aS else aN)=(if (isName (N k)&&isWord (V k))=true then aS else aN)):=rfl;obtain⟨bn,hbn⟩:∃ bn,isName (N k)=bn:=⟨_,rfl⟩;obtain⟨bw,hbw⟩:∃ bw,isWord (V k)=bw:=⟨_,rfl⟩;rw[hbn] at hin hpk;rw[hbw] at hiw hpk;have pE:=(show Hid _ from hin);have OI:=(show Hid _ from hiw);have kM:=(show Hid _ from hpk);have HBN:=(show Hid _ from hbn);have cK:=(show Hid _ from hbw);clear hin hiw hpk hbn hbw hbr c0 c1 oL;cases hbb:(bn&&bw) with
   | false=>
    have hkm:k=m:=by
     rcases Nat.lt_or_ge k m with h | h
     ·have:=fD.out k h;rw[kM.out,hbb] at this;cases this
     ·omega
    subst hkm;have oL:Hid ((if (isName (N k)&&isWord (V k))=true then aS else aN)=aN):=by show _=_;rw[HBN.out,cK.out,hbb];rfl
    have hor:(!bn || !bw)=true:=by revert hbb;cases bn<;>cases bw<;>decide
    clear hcs hbb;obtain⟨t1,ht1⟩:∃ t1,N k=t1:=⟨_,rfl⟩;obtain⟨t2,ht2⟩:∃ t2,V k=t2:=⟨_,rfl⟩;rw[ht1] at e0 pE;rw[ht2] at e1 OI;have HT1:=(show Hid _ from ht1);have HT2:=(show Hid _ from ht2);clear ht1 ht2;go_wp2_with fail;refine Calls.mono (pE.out _) ?_;rintro e w1 ⟨rfl,hw1⟩;have bF:=hw1;subst bF;cases bn with
    | false=>
     go_wp2;go_ret;exact⟨(bq.out.alloc hwl _).alloc (by simp;omega) _,.inr ⟨hkn,wr.heap.size+1,by simp,by omega,(lZ (by simp) 0).trans (by simp),(lZ (by simp) 1).trans (by rw[oL.out];simp)⟩⟩
    | true=>
     cases bw with
     | false=>
      go_wp2_with fail;refine Calls.mono (OI.out _) ?_;rintro e w1 ⟨rfl,hw1⟩;have bF:=hw1;subst bF;go_wp2;go_ret;exact⟨(bq.out.alloc hwl _).alloc (by simp;omega) _,.inr ⟨hkn,wr.heap.size+1,by simp,by omega,(lZ (by simp) 0).trans (by simp),(lZ (by simp) 1).trans (by rw[oL.out];simp)⟩⟩
     | true=>simp at hor
   | true=>
    have agT:bn=true:=by revert hbb;cases bn<;>simp
    have agU:bw=true:=by revert hbb;cases bw<;>simp
    subst agT agU;by_cases hz:k=0
    ·subst hz;have hm0:0<m:=by
      rcases Nat.lt_or_ge 0 m with h | h
      ·exact h
      ·exfalso;have VI:m=0:=by omega
       have:=HBAD.out (by omega);rw[VI,kM.out] at this;simp at this
     have e00:wr.cell? ⟨lb,lo,none⟩=some (.string (N 0)):=by simpa using e0
     have e11:wr.cell? ⟨lb,lo+1,none⟩=some (.string (V 0)):=by simpa using e1
     clear hcs e0 e1 hbb;go_wp2_with fail;refine Calls.mono (pE.out _) ?_;rintro e w1 ⟨rfl,hw1⟩;have bF:=hw1;subst bF;go_wp2_with fail;refine Calls.mono (OI.out _) ?_;rintro e w1 ⟨rfl,hw1⟩;have bF:=hw1;subst bF;go_wp2_with fail;go_quiet (fail);go_wp2;go_roundw;case rel=>exact⟨1,by omega,by go_num,below_draws (bq.out.alloc hwl _) _⟩
     case measure=>simp[intOf]<;>omega
    ·obtain⟨j,rfl⟩:∃ j,k=j+1:=⟨k-1,by omega⟩;have hcj:=(hcs j (by omega)).1;have ej:wr.cell? ⟨lb,lo+j*2,none⟩=some (.string (N j)):=(bq.out.cell (p:=⟨lb,_,none⟩) hlb).trans hcj;have hll:lb<wr.heap.size:=by omega
     have ejA:∀ o:Obj,(wr.alloc o).cell? ⟨lb,lo+j*2,none⟩=some (.string (N j)):=fun o=>(World.cell?_alloc_lt wr o ⟨lb,_,none⟩ hll).trans ej
     have i1:(0:Int)<=(j:Int)+1-1:=by omega
     have i2:(j:Int)+1-1<(n:Int):=by omega
     have i3:(0:Int)<(j:Int)+1:=by omega
     have hpk:jQ N V (j+1) = !OH (N (j+1)) (N j):=by
      rw[kM.out];simp
     have hle:OH (N (j+1)) (N j)=(Op.bytesLess (N (j+1)).toList (N j).toList||(N (j+1)).toList==(N j).toList):=rfl;cases G5:OH (N (j+1)) (N j) with
     | false=>
      have hkm:j+1<m:=by
       rcases Nat.lt_or_ge (j+1) m with h | h
       ·exact h
       ·exfalso;have hme:m=j+1:=by omega
        have:=HBAD.out (by omega);rw[hme,hpk,G5] at this;cases this
      rw[G5] at hle;have hle':=hle.symm;clear hcs hpk G5 hle hbb hcj;generalize N (j+1)=t1 at *;generalize N j=t0 at *;generalize V (j+1)=t2 at *;go_wp2_with fail;refine Calls.mono (pE.out _) ?_;rintro e w1 ⟨rfl,hw1⟩;have bF:=hw1;subst bF;go_wp2_with fail;refine Calls.mono (OI.out _) ?_;rintro e w1 ⟨rfl,hw1⟩;have bF:=hw1;subst bF;go_wp2_with fail;go_quiet (fail);go_wp2;go_roundw;case rel=>exact⟨j+2,by omega,by go_num,below_draws (bq.out.alloc hwl _) _⟩
      case measure=>simp[intOf]<;>omega
     | true=>
      have hkm:j+1=m:=by
       rcases Nat.lt_or_ge (j+1) m with h | h
       ·have:=fD.out (j+1) h;rw[hpk,G5] at this;cases this
       ·omega
      subst hkm;rw[G5] at hle;have hle':=hle.symm;have oL:Hid ((if (isName (N (j+1))&&isWord (V (j+1)))=true then aS else aN)=aS):=by show _=_;rw[HBN.out,cK.out];rfl
      clear hcs hpk G5 hle hbb hcj HP fD HBAD;obtain⟨t1,ht1⟩:∃ t1,N (j+1)=t1:=⟨_,rfl⟩;obtain⟨t0,ht0⟩:∃ t0,N j=t0:=⟨_,rfl⟩;obtain⟨t2,ht2⟩:∃ t2,V (j+1)=t2:=⟨_,rfl⟩;rw[ht1] at e0 hle' pE;rw[ht0] at ej ejA hle';rw[ht2] at e1 OI;clear ht1 ht0 ht2;go_wp2_with fail;refine Calls.mono (pE.out _) ?_;rintro e w1 ⟨rfl,hw1⟩;have bF:=hw1;subst bF;go_wp2_with fail;refine Calls.mono (OI.out _) ?_;rintro e w1 ⟨rfl,hw1⟩;have bF:=hw1;subst bF;go_wp2_with fail;go_quiet (fail);go_wp2;go_ret;exact⟨(below_draws (bq.out.alloc hwl _) _).alloc (by simp;omega) _,.inr ⟨hkn,wr.heap.size+1,by simp,by omega,(lZ (by show (wr.alloc _).heap.size=_;simp) 0).trans (by simp),(lZ (by show (wr.alloc _).heap.size=_;simp) 1).trans (by rw[oL.out];simp)⟩⟩
  ·have hkm:k=m:=by omega
   have hmn:m=n:=by omega
   have hge:(n:Int)<=(k:Int):=by omega
   have bq:=(show Hid _ from hbr);clear hbr;go_wp2;go_ret;exact⟨bq.out,.inl ⟨hmn,rfl⟩⟩
end Go.Proofs.YtalliohkalnaeaaGreatDoor
namespace Go.Proofs.YtalliohkalnaeaaGreatDoor
open Go.RowKit
end Go.Proofs.YtalliohkalnaeaaGreatDoor
namespace aF
end aF
namespace Go.Proofs.YtalliohkalnaeaaGreatDoor
open Go.RowKit aF
end Go.Proofs.YtalliohkalnaeaaGreatDoor
namespace Go.Proofs.YtalliohkalnaeaaGreatDoor
open Go.RowKit aF
end Go.Proofs.YtalliohkalnaeaaGreatDoor
namespace Go.Proofs.YtalliohkalnaeaaGreatDoor
open Go.RowKit
end Go.Proofs.YtalliohkalnaeaaGreatDoor
namespace Go.Proofs.YtalliohkalnaeaaGreatDoor
open Go.RowKit
theorem below_drewN {b:Nat} {w w':World} (h:Below b w w') (q:Nat):Below b w (w'.drewN q):=h.trans ⟨rfl,rfl,rfl,Nat.le_refl _,fun _ _=>rfl⟩
theorem KN {W:World} {C:Array Value} {t:TypeId} {s:Nat} (hs:W.heap.size=s) (i:Nat):(W.alloc (.cells C t)).cell? ⟨s,i,none⟩=C[i]?:=by
 subst hs;have hb:(W.alloc (.cells C t)).heap[W.heap.size]? = some (.cells C t (0,0)):=heap_alloc_new _ _;simp only[World.cell?,hb];exact if_neg (by decide)
def aaD (w w':World) (T:Nat->Int) (m n:Nat) (aB aO:Addr) (e:Ending):Prop:=
 Below w.heap.size w w'/\((m=n/\e = .returned .nilIface)\/(m<n/\∃ pb:Nat,e = .returned (.iface 112 (.pointer (some ⟨pb,0,none⟩)))/\w.heap.size<=pb/\w'.cell? ⟨pb,0,none⟩=some (.int .i64 (m:Int))/\w'.cell? ⟨pb,1,none⟩=some (.iface 359 (.pointer (some (if dJ (T m)=true then aO else aB))))))
theorem P5 (w:World) (la:Option Addr) (n c:Nat) (hn:120<n) (hn2:(n:Int)<=9223372036854775807) (a:Addr) (hE:w.cell? ⟨0,0,none⟩=some (.iface 359 (.pointer (some a)))) :
  Calls Tryz.prog 127 #[.slice la n c] w fun e w'=>e = .returned (.iface 359 (.pointer (some a)))/\w'=w:=by
 have hd:decide ((120:Int)<(n:Int))=true:=by simp;omega
 go_enter Tryz.func127,Tryz.ntmps127;go_wp2;go_ret;exact⟨rfl,rfl⟩
theorem IC (w:World) (la:Option Addr) (n c:Nat) (T:Nat->Int) (B:Nat->Nat) (hP:qR w la n T B) (hn:n<=120) (m:Nat) (hm:m<=n) (hok:∀ i,i<m->ig T i=true) (hbad:m<n->ig T m=false)
  (aB aO:Addr) (hEB:w.cell? ⟨0,0,none⟩=some (.iface 359 (.pointer (some aB)))) (hEO:w.cell? ⟨2,0,none⟩=some (.iface 359 (.pointer (some aO)))) :
  Calls Tryz.prog 127 #[.slice la n c] w fun e w'=>aaD w w' T m n aB aO e:=by
 have HP:Hid (qR w la n T B):=hP;have fD:=(show Hid _ from hok);have HBAD:=(show Hid _ from hbad);have HEB:=(show Hid _ from hEB);have HEO:=(show Hid _ from hEO);have hGB:0<w.heap.size:=World.block_lt_of_cell? w ⟨0,0,none⟩ hEB;have hGO:2<w.heap.size:=World.block_lt_of_cell? w ⟨2,0,none⟩ hEO;have hd:decide ((120:Int)<(n:Int))=false:=by simp;omega
 clear hP hok hbad hEB hEO;go_enter Tryz.func127,Tryz.ntmps127;go_wp2_with fail;go_loopw [3,4,11] (fun _ _ i wr=>∃ k:Nat,k<=m/\i = .int .i64 k/\Below w.heap.size w wr) (fun _ _ i _=>n-(intOf i).toNat);case atStart=>exact⟨0,Nat.zero_le _,rfl,Below.refl _ _⟩
 case round=>
  obtain⟨k,hk,rfl,hbr⟩:=hrel;by_cases hkn:k<n
  ·obtain⟨lb,lo,rfl,hcs⟩:=HP.out.at k hkn;obtain⟨c0,c1,_⟩:=hcs k hkn;have hlb:lb<w.heap.size:=World.block_lt_of_cell? w ⟨lb,_,none⟩ c0;have hk0:(0:Int)<=(k:Int):=by omega
   have hk1:(k:Int)<(n:Int):=by omega
   have e0:wr.cell? ⟨lb,lo+k*2,none⟩=some (.int .i64 (T k)):=(hbr.cell (p:=⟨lb,_,none⟩) hlb).trans c0;have e1:wr.cell? ⟨lb,lo+k*2+1,none⟩=some (.int .u64 (B k:Int)):=(hbr.cell (p:=⟨lb,_,none⟩) hlb).trans c1;have bq:=(show Hid _ from hbr);have hwl:=hbr.size;have hlw:lb≠wr.heap.size:=by omega
   have g1:wr.cell? ⟨0,0,none⟩=some (.iface 359 (.pointer (some aB))):=(hbr.cell (p:=⟨0,0,none⟩) hGB).trans HEB.out;have g7:wr.cell? ⟨2,0,none⟩=some (.iface 359 (.pointer (some aO))):=(hbr.cell (p:=⟨2,0,none⟩) hGO).trans HEO.out;have hG1:0<wr.heap.size:=by omega
   have hG7:2<wr.heap.size:=by omega
   clear hbr c0 c1;cases htk:dJ (T k) with
   | false=>
    have hkm:k=m:=by
     rcases Nat.lt_or_ge k m with h | h
     ·have:=fD.out k h;unfold ig at this;rw[htk] at this;cases this
     ·omega
    subst hkm;have nM:=(show Hid _ from htk);have oL:Hid ((if dJ (T k)=true then aO else aB)=aB):=by show _=_;rw[htk];rfl
    have hout:T k < -1099511627776\/1099511627776<T k:=by
     unfold dJ at htk;simp at htk;omega
    clear htk nM hcs HP fD HBAD;obtain⟨t,ht⟩:∃ t,T k=t:=⟨_,rfl⟩;rw[ht] at e0 hout;have FE:=(show Hid _ from ht);clear ht;generalize B k=y at *;rcases hout with h | h
    ·have d1:decide (t < -1099511627776)=true:=decide_eq_true h;go_wp2;go_ret;exact⟨(bq.out.alloc hwl _).alloc (by simp;omega) _,.inr ⟨hkn,wr.heap.size+1,by simp,by omega,by simp,by rw[oL.out];simp⟩⟩
    ·have d1:decide (t < -1099511627776)=false:=decide_eq_false (by omega);have d2:decide (1099511627776<t)=true:=decide_eq_true h;go_wp2;go_ret;exact⟨(bq.out.alloc hwl _).alloc (by simp;omega) _,.inr ⟨hkn,wr.heap.size+1,by simp,by omega,by simp,by rw[oL.out];simp⟩⟩
   | true=>
    have hin:=(jP _).1 htk;have d1:decide (T k < -1099511627776)=false:=decide_eq_false (by omega);have d2:decide (1099511627776<T k)=false:=decide_eq_false (by omega);by_cases hz:k=0
    ·subst hz;have hm0:0<m:=by
      rcases Nat.lt_or_ge 0 m with h | h
      ·exact h
      ·exfalso;have VI:m=0:=by omega
       have:=HBAD.out (by omega);rw[VI] at this;unfold ig at this;rw[htk] at this;simp at this
     have e00:wr.cell? ⟨lb,lo,none⟩=some (.int .i64 (T 0)):=by simpa using e0
     have e11:wr.cell? ⟨lb,lo+1,none⟩=some (.int .u64 (B 0:Int)):=by simpa using e1
     clear htk hcs e0 e1;go_wp2_with fail;go_quiet (fail);go_wp2;go_roundw;case rel=>exact⟨1,by omega,by go_num,below_drewN (bq.out.alloc hwl _) _⟩
     case measure=>simp[intOf]<;>omega
    ·obtain⟨j,rfl⟩:∃ j,k=j+1:=⟨k-1,by omega⟩;have hcj:=(hcs j (by omega)).1;have ej:wr.cell? ⟨lb,lo+j*2,none⟩=some (.int .i64 (T j)):=(bq.out.cell (p:=⟨lb,_,none⟩) hlb).trans hcj;have hll:lb<wr.heap.size:=by omega
     have ejA:∀ o:Obj,(wr.alloc o).cell? ⟨lb,lo+j*2,none⟩=some (.int .i64 (T j)):=fun o=>(World.cell?_alloc_lt wr o ⟨lb,_,none⟩ hll).trans ej
     have hpk:ig T (j+1)=decide (T j<T (j+1)):=by unfold ig;rw[htk];simp
     have i1:(0:Int)<=(j:Int)+1-1:=by omega
     have i2:(j:Int)+1-1<(n:Int):=by omega
     have i3:(0:Int)<(j:Int)+1:=by omega
     by_cases hlt:T j<T (j+1)
     ·have hkm:j+1<m:=by
       rcases Nat.lt_or_ge (j+1) m with h | h
       ·exact h
       ·exfalso;have hme:m=j+1:=by omega
        have:=HBAD.out (by omega);rw[hme,hpk] at this;simp at this;omega
      have hdec:decide (T (j+1)<=T j)=false:=by simp;omega
      clear hcs htk hpk hlt hcj;generalize T (j+1)=t1 at *;generalize T j=t0 at *;generalize B (j+1)=y1 at *;go_wp2_with fail;go_quiet (fail);go_wp2;go_roundw;case rel=>exact⟨j+2,by omega,by go_num,below_drewN (bq.out.alloc hwl _) _⟩
      case measure=>simp[intOf]<;>omega
     ·have hkm:j+1=m:=by
       rcases Nat.lt_or_ge (j+1) m with h | h
       ·have:=fD.out (j+1) h;rw[hpk] at this;simp at this;omega
       ·omega
      have hle:T (j+1)<=T j:=by omega
      have hdec:decide (T (j+1)<=T j)=true:=by simpa using hle
      subst hkm;have oL:Hid ((if dJ (T (j+1))=true then aO else aB)=aO):=by show _=_;rw[htk];rfl
      clear hcs htk hpk hlt hcj HP fD HBAD;obtain⟨t1,ht1⟩:∃ t1,T (j+1)=t1:=⟨_,rfl⟩;rw[ht1] at e0 hdec d1 d2 hin hle;generalize T j=t0 at *;have FE:=(show Hid _ from ht1);clear ht1;generalize B (j+1)=y1 at *;go_wp2_with fail;go_quiet (fail);go_wp2;go_ret;exact⟨(below_drewN (bq.out.alloc hwl _) _).alloc (by simp;omega) _,.inr ⟨hkn,wr.heap.size+1,by simp,by omega,(KN (by show (wr.alloc _).heap.size=_;simp) 0).trans (by simp),(KN (by show (wr.alloc _).heap.size=_;simp) 1).trans (by rw[oL.out];simp)⟩⟩
  ·have hkm:k=m:=by omega
   have hmn:m=n:=by omega
   have hge:(n:Int)<=(k:Int):=by omega
   have bq:=(show Hid _ from hbr);clear hbr;go_wp2;go_ret;exact⟨bq.out,.inl ⟨hmn,rfl⟩⟩
end Go.Proofs.YtalliohkalnaeaaGreatDoor
namespace Go.Proofs.YtalliohkalnaeaaGreatDoor
open Go.RowKit aF
def nS (w:World) (a:Option Addr) (n:Nat) (K:Nat->Nat) (N V:Nat->ByteArray):Prop:=
 n=0\/∃ b o,a=some ⟨b,o,none⟩/\∀ k,k<n->w.cell? ⟨b,o+k*3,none⟩=some (.int .u8 (K k:Int))/\w.cell? ⟨b,o+k*3+1,none⟩=some (.string (N k))/\w.cell? ⟨b,o+k*3+2,none⟩=some (.string (V k))/\K k<256
theorem nS.at {w:World} {a:Option Addr} {n:Nat} {K:Nat->Nat} {N V:Nat->ByteArray} (h:nS w a n K N V) (k:Nat) (hk:k<n) :
  ∃ b o,a=some ⟨b,o,none⟩/\∀ k,k<n->w.cell? ⟨b,o+k*3,none⟩=some (.int .u8 (K k:Int))/\w.cell? ⟨b,o+k*3+1,none⟩=some (.string (N k))/\w.cell? ⟨b,o+k*3+2,none⟩=some (.string (V k))/\K k<256:=by
 rcases h with h | h
 ·omega
 ·exact h
theorem nS.below {w w':World} {a:Option Addr} {n:Nat} {K:Nat->Nat} {N V:Nat->ByteArray} (h:nS w a n K N V) (hb:Below w.heap.size w w'):nS w' a n K N V:=by
 rcases h with h | ⟨b,o,h,hc⟩
 ·exact .inl h
 ·refine .inr ⟨b,o,h,fun k hk=>?_⟩;obtain⟨h1,h2,h3,h4⟩:=hc k hk;have hl:b<w.heap.size:=World.block_lt_of_cell? w ⟨b,_,none⟩ h1;exact⟨(hb.cell (p:=⟨b,_,none⟩) hl).trans h1,(hb.cell (p:=⟨b,_,none⟩) hl).trans h2,(hb.cell (p:=⟨b,_,none⟩) hl).trans h3,h4⟩
def kindOk (k:Nat):Bool:=decide (k=61\/k=33\/k=126)
def nN (K:Nat->Nat) (N:Nat->ByteArray) (i:Nat):Bool:=kindOk (K i)&&isName (N i)
end Go.Proofs.YtalliohkalnaeaaGreatDoor
namespace aF
def lQ (N V:Nat->ByteArray) (x:ByteArray):Nat->ByteArray
 | 0=>⟨#[]⟩
 | k+1=>if ((N k).toList==x.toList)=true then V k else lQ N V x k
def yA (k:Nat) (v w:ByteArray):Bool:=
 if k=33 then !(v.toList==w.toList) else if k=126 then decide (w.size<=v.size)&&((v.extract 0 w.size).toList==w.toList) else v.toList==w.toList
def pF (N V:Nat->ByteArray) (n:Nat) (K:Nat->Nat) (X Y:Nat->ByteArray):Nat->Bool
 | 0=>true
 | k+1=>pF N V n K X Y k&&yA (K k) (lQ N V (X k) n) (Y k)
theorem OJ (N V:Nat->ByteArray) (n:Nat) (K:Nat->Nat) (X Y:Nat->ByteArray) (k:Nat) (h:yA (K k) (lQ N V (X k) n) (Y k)=false):∀ m,k<m->pF N V n K X Y m=false
 | 0,hk=>absurd hk (by omega)
 | m+1,hk=>by
  rw[pF];rcases Nat.lt_or_ge k m with h1 | h1
  ·rw[OJ N V n K X Y k h m h1,Bool.false_and]
  ·have:k=m:=by omega
   subst this;rw[h,Bool.and_false]
end aF
namespace Go.Proofs.YtalliohkalnaeaaGreatDoor
open Go.RowKit aF
end Go.Proofs.YtalliohkalnaeaaGreatDoor
