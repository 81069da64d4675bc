import Derived.Test.YtololnhfgjbhjaaGreatDoorRefUnwave
import Derived.Test.YtololnhfgjbhjaaGreatDoorSlicesIn
import Derived.BigQuiet
set_option maxRecDepth 1000000
set_option maxHeartbeats 2000000
open Go.Proofs.Tryz
namespace Go.Proofs.YtololnhfgjbhjaaGreatDoor
open Go.RowKit
theorem ś{p:Prop}(h:p):Go.RowKit.Hid p:=h
def dQ(t:Int):Bool:=decide (-1099511627776<=t)&&decide (t<=1099511627776)
theorem kQ(t:Int):dQ t=true ↔ -1099511627776<=t/\t<=1099511627776:=by simp[dQ]
def iJ(T:Nat->Int)(i:Nat):Bool:=dQ (T i)&&(decide (i=0)||decide (T (i-1)<T i))
theorem Rp(w:World)(a b:Option Addr)(n ca cb:Nat)(T:Nat->Int)(B:Nat->Nat)(ha:uP w a n T B)(hb:uP w b n T B)(hn:(n:Int)<=100000):
  Calls prog 13 #[.slice a n ca,.slice b n cb] w λe w'=>e = .returned (.bool true)/\∃q,w'=w.drewN q:=by
 have HA:Hid (uP w a n T B):=ha;have HB:Hid (uP w b n T B):=hb;clear ha hb;go_enter func13,ntmps13;go_wp2_with fail;go_loopw [4,5] (λs4 i wr=>s4 = .bool false/\∃k q:Nat,k<=n/\i = .int .i64 k/\wr=w.drewN q) (λ_ i _=>n-(intOf i).toNat);case atStart=>exact⟨rfl,0,0,Nat.zero_le _,rfl,rfl⟩
 case round=>
  obtain⟨rfl,k,q,hk,rfl,rfl⟩:=hrel;by_cases ϙ:k<n
  ·obtain⟨b1,o1,rfl,h1⟩:=HA.out.at k ϙ;obtain⟨b2,o2,rfl,h2⟩:=HB.out.at k ϙ;obtain⟨å,ĸ,_⟩:=h1 k ϙ;obtain⟨Ģ,ň,_⟩:=h2 k ϙ;have ä:(0:Int)<=(k:Int):=by omega
   have ϒ:(k:Int)<(n:Int):=by omega
   generalize T k=t at *;generalize B k=v at *;clear h1 h2;go_wp2_with fail;go_quiet (fail);go_wp2;go_roundw;case rel=>exact⟨rfl,k+1,_,by omega,by go_num,by first|rfl|(rw[World.drewN_drewN])⟩
   case measure=>simp[intOf]<;>omega
  ·have Ł:(n:Int)<=(k:Int):=by omega
   go_wp2;go_ret;exact⟨rfl,q,rfl⟩
open aF
theorem below_draws{b:Nat}{w w':World}(h:Below b w w')(q:Nat):Below b w (w'.drewN q):=h.trans ⟨rfl,rfl,rfl,Nat.le_refl _,λ_ _=>rfl⟩
def wu(w:World)(a:Option Addr)(n:Nat)(N V:Nat->ByteArray):Prop:=
 n=0\/∃b o,a=some ⟨b,o,none⟩/\∀k,k<n->w.cell? ⟨b,o+k*2,none⟩=some (.string (N k))/\w.cell? ⟨b,o+k*2+1,none⟩=some (.string (V k))
theorem wu.at{w:World}{a:Option Addr}{n:Nat}{N V:Nat->ByteArray}(h:wu w a n N V)(k:Nat)(hk:k<n):
  ∃b o,a=some ⟨b,o,none⟩/\∀k,k<n->w.cell? ⟨b,o+k*2,none⟩=some (.string (N k))/\w.cell? ⟨b,o+k*2+1,none⟩=some (.string (V k)):=by
 rcases h with h|h
 ·omega
 ·exact h
theorem wu.below{w w':World}{a:Option Addr}{n:Nat}{N V:Nat->ByteArray}(h:wu w a n N V)(hb:Below w.heap.size w w'):wu w' a n N V:=by
 rcases h with h|⟨b,o,h,hc⟩
 ·exact .inl h
 ·refine .inr ⟨b,o,h,λk hk=>?_⟩;obtain⟨h1,h2⟩:=hc k hk;have hl:b<w.heap.size:=World.block_lt_of_cell? w ⟨b,_,none⟩ h1;exact⟨(hb.cell (p:=⟨b,_,none⟩) hl).trans h1,(hb.cell (p:=⟨b,_,none⟩) hl).trans h2⟩
def Sv(a b:ByteArray):Bool:=Op.bytesLess a.toList b.toList||a.toList==b.toList
def kR(N V:Nat->ByteArray)(i:Nat):Bool:=(isName (N i)&&isWord (V i))&&(decide (i=0) || !Sv (N i) (N (i-1)))
theorem nN{W:World}{C:Array Value}{t:TypeId}{s:Nat}(hs:W.heap.size=s)(i:Nat):(W.alloc (.cells C t)).cell? ⟨s,i,none⟩=C[i]?:=by
 subst hs;have hb:(W.alloc (.cells C t)).heap[W.heap.size]? = some (.cells C t (0,0)):=heap_alloc_new _ _;simp only[World.cell?,hb];exact if_neg (by decide)
def adr(w w':World)(N V:Nat->ByteArray)(m n:Nat)(aN aS:Addr)(e:Ending):Prop:=
 Below w.heap.size w w'/\((m=n/\e = .returned .nilIface)\/(m<n/\∃pb:Nat,e = .returned (.iface 126 (.pointer (some ⟨pb,0,none⟩)))/\w.heap.size<=pb/\w'.cell? ⟨pb,0,none⟩=some (.int .i64 (m:Int))/\w'.cell? ⟨pb,1,none⟩=some (.iface 352 (.pointer (some (if (isName (N m)&&isWord (V m))=true then aS else aN))))))
theorem Rq(w:World)(la:Option Addr)(c:Nat)(a:Addr)(hE:w.cell? ⟨2,0,none⟩=some (.iface 352 (.pointer (some a)))):
  Calls prog 91 #[.slice la 0 c] w λe w'=>e = .returned (.iface 352 (.pointer (some a)))/\w'=w:=by
 go_enter func91,ntmps91;go_wp2;go_ret;exact⟨rfl,rfl⟩
theorem GJ(w:World)(la:Option Addr)(n c:Nat)(hn:6<n)(ĕ:(n:Int)<=9223372036854775807)(a:Addr)(hE:w.cell? ⟨0,0,none⟩=some (.iface 352 (.pointer (some a)))):
  Calls prog 91 #[.slice la n c] w λe w'=>e = .returned (.iface 352 (.pointer (some a)))/\w'=w:=by
 have hd:decide ((6:Int)<(n:Int))=true:=by simp;omega
 have hd0:((n:Int)==0)=false:=by rw[beq_eq_false_iff_ne];omega
 go_enter func91,ntmps91;go_wp2;go_ret;exact⟨rfl,rfl⟩
theorem Jt(w:World)(la:Option Addr)(n c:Nat)(N V:Nat->ByteArray)(hP:wu w la n N V)(ϟ:∀i,i<n->(N i).size<=1000000/\(V i).size<=1000000)(h0:1<=n)(hn:n<=6)(m:Nat)(hm:m<=n)(ϱ:∀i,i<m->kR N V i=true)(Ϣ:m<n->kR N V m=false)
  (aN aS:Addr) (EC:w.cell? ⟨6,0,none⟩=some (.iface 352 (.pointer (some aN)))) (hES:w.cell? ⟨3,0,none⟩=some (.iface 352 (.pointer (some aS)))) :
  Calls prog 91 #[.slice la n c] w λe w'=>adr w w' N V m n aN aS e:=by
 have HP:Hid (wu w la n N V):=hP;have iq:=ś ϱ;have HBAD:=ś Ϣ;have gM:=ś ϟ;have uf:=ś EC;have HES:=ś hES;have hGN:6<w.heap.size:=World.block_lt_of_cell? w ⟨6,0,none⟩ EC;have hGS:3<w.heap.size:=World.block_lt_of_cell? w ⟨3,0,none⟩ hES;have hd:decide ((6:Int)<(n:Int))=false:=by simp;omega
 have hd0:((n:Int)==0)=false:=by rw[beq_eq_false_iff_ne];omega
 clear hP ϱ Ϣ EC hES ϟ;go_enter func91,ntmps91;go_wp2_with fail;go_loopw [3,4,15] (λ_ _ i wr=>∃k:Nat,k<=m/\i = .int .i64 k/\Below w.heap.size w wr) (λ_ _ i _=>n-(intOf i).toNat);case atStart=>exact⟨0,Nat.zero_le _,rfl,Below.refl _ _⟩
 case round=>
  obtain⟨k,hk,rfl,ϝ⟩:=hrel;by_cases ϥ:k<n
  ·obtain⟨lb,lo,rfl,Ϧ⟩:=HP.out.at k ϥ;obtain⟨c0,c1⟩:=Ϧ k ϥ;have Ø:lb<w.heap.size:=World.block_lt_of_cell? w ⟨lb,_,none⟩ c0;have ä:(0:Int)<=(k:Int):=by omega
   have ϒ:(k:Int)<(n:Int):=by omega
   have e0:wr.cell? ⟨lb,lo+k*2,none⟩=some (.string (N k)):=(ϝ.cell (p:=⟨lb,_,none⟩) Ø).trans c0;have e1:wr.cell? ⟨lb,lo+k*2+1,none⟩=some (.string (V k)):=(ϝ.cell (p:=⟨lb,_,none⟩) Ø).trans c1;have bE:=ś ϝ;have Ô:=ϝ.size;have hlw:lb≠wr.heap.size:=by omega
   have gN:wr.cell? ⟨6,0,none⟩=some (.iface 352 (.pointer (some aN))):=(ϝ.cell (p:=⟨6,0,none⟩) hGN).trans uf.out;have gS:wr.cell? ⟨3,0,none⟩=some (.iface 352 (.pointer (some aS))):=(ϝ.cell (p:=⟨3,0,none⟩) hGS).trans HES.out;have hG1:6<wr.heap.size:=by omega
   have hG7:3<wr.heap.size:=by omega
   have Ê:=λw0=>GI (N k) w0 (gM.out k ϥ).1
   have hiw:=λw0=>EA (V k) w0 (gM.out k ϥ).2
   have ó:kR N V k=((isName (N k)&&isWord (V k))&&(decide (k=0) || !Sv (N k) (N (k-1)))):=rfl;have rz:Hid ((if (isName (N k)&&isWord (V k))=true then aS else aN)=(if (isName (N k)&&isWord (V k))=true then aS else aN)):=rfl;obtain⟨bn,ő⟩:∃bn,isName (N k)=bn:=⟨_,rfl⟩;obtain⟨bw,ď⟩:∃bw,isWord (V k)=bw:=⟨_,rfl⟩;rw[ő] at Ê ó;rw[ď] at hiw ó;have oI:=ś Ê;have Sw:=ś hiw;have lJ:=ś ó;have HBN:=ś ő;have bV:=ś ď;clear Ê hiw ó ő ď ϝ c0 c1 rz;cases ŉ:(bn&&bw) with
   | false=>
    have ù:k=m:=by
     rcases Nat.lt_or_ge k m with h|h
     ·have:=iq.out k h;rw[lJ.out,ŉ] at this;cases this
     ·omega
    subst ù;have rz:Hid ((if (isName (N k)&&isWord (V k))=true then aS else aN)=aN):=by show _=_;rw[HBN.out,bV.out,ŉ];rfl
    have í:(!bn || !bw)=true:=by revert ŉ;cases bn<;>cases bw<;>decide
    clear Ϧ ŉ;obtain⟨t1,ÿ⟩:∃t1,N k=t1:=⟨_,rfl⟩;obtain⟨t2,Ŝ⟩:∃t2,V k=t2:=⟨_,rfl⟩;rw[ÿ] at e0 oI;rw[Ŝ] at e1 Sw;have HT1:=ś ÿ;have HT2:=ś Ŝ;clear ÿ Ŝ;go_wp2_with fail;refine Calls.mono (oI.out _) ?_;rintro e w1 ⟨rfl,Ϝ⟩;have bH:=Ϝ;subst bH;cases bn with
    | false=>
     go_wp2;go_ret;exact⟨(bE.out.alloc Ô _).alloc (by simp;omega) _,.inr ⟨ϥ,wr.heap.size+1,by simp,by omega,(nN (by simp) 0).trans (by simp),(nN (by simp) 1).trans (by rw[rz.out];simp)⟩⟩
    | true=>
     cases bw with
     | false=>
      go_wp2_with fail;refine Calls.mono (Sw.out _) ?_;rintro e w1 ⟨rfl,Ϝ⟩;have bH:=Ϝ;subst bH;go_wp2;go_ret;exact⟨(bE.out.alloc Ô _).alloc (by simp;omega) _,.inr ⟨ϥ,wr.heap.size+1,by simp,by omega,(nN (by simp) 0).trans (by simp),(nN (by simp) 1).trans (by rw[rz.out];simp)⟩⟩
     | true=>simp at í
   | true=>
    have ak9:bn=true:=by revert ŉ;cases bn<;>simp
    have ala:bw=true:=by revert ŉ;cases bw<;>simp
    subst ak9 ala;by_cases hz:k=0
    ·subst hz;have φ:0<m:=by
      rcases Nat.lt_or_ge 0 m with h|h
      ·exact h
      ·exfalso;have ZJ:m=0:=by omega
       have:=HBAD.out (by omega);rw[ZJ,lJ.out] at this;simp at this
     have e00:wr.cell? ⟨lb,lo,none⟩=some (.string (N 0)):=by simpa using e0
     have e11:wr.cell? ⟨lb,lo+1,none⟩=some (.string (V 0)):=by simpa using e1
     clear Ϧ e0 e1 ŉ;go_wp2_with fail;refine Calls.mono (oI.out _) ?_;rintro e w1 ⟨rfl,Ϝ⟩;have bH:=Ϝ;subst bH;go_wp2_with fail;refine Calls.mono (Sw.out _) ?_;rintro e w1 ⟨rfl,Ϝ⟩;have bH:=Ϝ;subst bH;go_wp2_with fail;go_quiet (fail);go_wp2;go_roundw;case rel=>exact⟨1,by omega,by go_num,below_draws (bE.out.alloc Ô _) _⟩
     case measure=>simp[intOf]<;>omega
    ·obtain⟨j,rfl⟩:∃j,k=j+1:=⟨k-1,by omega⟩;have hcj:=(Ϧ j (by omega)).1;have ej:wr.cell? ⟨lb,lo+j*2,none⟩=some (.string (N j)):=(bE.out.cell (p:=⟨lb,_,none⟩) Ø).trans hcj;have î:lb<wr.heap.size:=by omega
     have ejA:∀o:Obj,(wr.alloc o).cell? ⟨lb,lo+j*2,none⟩=some (.string (N j)):=λo=>(World.cell?_alloc_lt wr o ⟨lb,_,none⟩ î).trans ej
     have i1:(0:Int)<=(j:Int)+1-1:=by omega
     have i2:(j:Int)+1-1<(n:Int):=by omega
     have i3:(0:Int)<(j:Int)+1:=by omega
     have ó:kR N V (j+1) = !Sv (N (j+1)) (N j):=by
      rw[lJ.out];simp
     have ă:Sv (N (j+1)) (N j)=(Op.bytesLess (N (j+1)).toList (N j).toList||(N (j+1)).toList==(N j).toList):=rfl;cases KQ:Sv (N (j+1)) (N j) with
     | false=>
      have ù:j+1<m:=by
       rcases Nat.lt_or_ge (j+1) m with h|h
       ·exact h
       ·exfalso;have hme:m=j+1:=by omega
        have:=HBAD.out (by omega);rw[hme,ó,KQ] at this;cases this
      rw[KQ] at ă;have hle':=ă.symm;clear Ϧ ó KQ ă ŉ hcj;generalize N (j+1)=t1 at *;generalize N j=t0 at *;generalize V (j+1)=t2 at *;go_wp2_with fail;refine Calls.mono (oI.out _) ?_;rintro e w1 ⟨rfl,Ϝ⟩;have bH:=Ϝ;subst bH;go_wp2_with fail;refine Calls.mono (Sw.out _) ?_;rintro e w1 ⟨rfl,Ϝ⟩;have bH:=Ϝ;subst bH;go_wp2_with fail;go_quiet (fail);go_wp2;go_roundw;case rel=>exact⟨j+2,by omega,by go_num,below_draws (bE.out.alloc Ô _) _⟩
      case measure=>simp[intOf]<;>omega
     | true=>
      have ù:j+1=m:=by
       rcases Nat.lt_or_ge (j+1) m with h|h
       ·have:=iq.out (j+1) h;rw[ó,KQ] at this;cases this
       ·omega
      subst ù;rw[KQ] at ă;have hle':=ă.symm;have rz:Hid ((if (isName (N (j+1))&&isWord (V (j+1)))=true then aS else aN)=aS):=by show _=_;rw[HBN.out,bV.out];rfl
      clear Ϧ ó KQ ă ŉ hcj HP iq HBAD;obtain⟨t1,ÿ⟩:∃t1,N (j+1)=t1:=⟨_,rfl⟩;obtain⟨t0,Ě⟩:∃t0,N j=t0:=⟨_,rfl⟩;obtain⟨t2,Ŝ⟩:∃t2,V (j+1)=t2:=⟨_,rfl⟩;rw[ÿ] at e0 hle' oI;rw[Ě] at ej ejA hle';rw[Ŝ] at e1 Sw;clear ÿ Ě Ŝ;go_wp2_with fail;refine Calls.mono (oI.out _) ?_;rintro e w1 ⟨rfl,Ϝ⟩;have bH:=Ϝ;subst bH;go_wp2_with fail;refine Calls.mono (Sw.out _) ?_;rintro e w1 ⟨rfl,Ϝ⟩;have bH:=Ϝ;subst bH;go_wp2_with fail;go_quiet (fail);go_wp2;go_ret;exact⟨(below_draws (bE.out.alloc Ô _) _).alloc (by simp;omega) _,.inr ⟨ϥ,wr.heap.size+1,by simp,by omega,(nN (by show (wr.alloc _).heap.size=_;simp) 0).trans (by simp),(nN (by show (wr.alloc _).heap.size=_;simp) 1).trans (by rw[rz.out];simp)⟩⟩
  ·have ù:k=m:=by omega
   have Û:m=n:=by omega
   have Ł:(n:Int)<=(k:Int):=by omega
   have bE:=ś ϝ;clear ϝ;go_wp2;go_ret;exact⟨bE.out,.inl ⟨Û,rfl⟩⟩
end Go.Proofs.YtololnhfgjbhjaaGreatDoor
namespace aF
end aF
namespace Go.Proofs.YtololnhfgjbhjaaGreatDoor
open Go.RowKit aF
theorem below_drewN{b:Nat}{w w':World}(h:Below b w w')(q:Nat):Below b w (w'.drewN q):=h.trans ⟨rfl,rfl,rfl,Nat.le_refl _,λ_ _=>rfl⟩
theorem OC{W:World}{C:Array Value}{t:TypeId}{s:Nat}(hs:W.heap.size=s)(i:Nat):(W.alloc (.cells C t)).cell? ⟨s,i,none⟩=C[i]?:=by
 subst hs;have hb:(W.alloc (.cells C t)).heap[W.heap.size]? = some (.cells C t (0,0)):=heap_alloc_new _ _;simp only[World.cell?,hb];exact if_neg (by decide)
def aew(w w':World)(T:Nat->Int)(m n:Nat)(aB aO:Addr)(e:Ending):Prop:=
 Below w.heap.size w w'/\((m=n/\e = .returned .nilIface)\/(m<n/\∃pb:Nat,e = .returned (.iface 126 (.pointer (some ⟨pb,0,none⟩)))/\w.heap.size<=pb/\w'.cell? ⟨pb,0,none⟩=some (.int .i64 (m:Int))/\w'.cell? ⟨pb,1,none⟩=some (.iface 352 (.pointer (some (if dQ (T m)=true then aO else aB))))))
theorem Uj(w:World)(la:Option Addr)(n c:Nat)(hn:120<n)(ĕ:(n:Int)<=9223372036854775807)(a:Addr)(hE:w.cell? ⟨0,0,none⟩=some (.iface 352 (.pointer (some a)))):
  Calls prog 133 #[.slice la n c] w λe w'=>e = .returned (.iface 352 (.pointer (some a)))/\w'=w:=by
 have hd:decide ((120:Int)<(n:Int))=true:=by simp;omega
 go_enter func133,ntmps133;go_wp2;go_ret;exact⟨rfl,rfl⟩
theorem LK(w:World)(la:Option Addr)(n c:Nat)(T:Nat->Int)(B:Nat->Nat)(hP:uP w la n T B)(hn:n<=120)(m:Nat)(hm:m<=n)(ϱ:∀i,i<m->iJ T i=true)(Ϣ:m<n->iJ T m=false)
  (aB aO:Addr) (hEB:w.cell? ⟨0,0,none⟩=some (.iface 352 (.pointer (some aB)))) (hEO:w.cell? ⟨4,0,none⟩=some (.iface 352 (.pointer (some aO)))) :
  Calls prog 133 #[.slice la n c] w λe w'=>aew w w' T m n aB aO e:=by
 have HP:Hid (uP w la n T B):=hP;have iq:=ś ϱ;have HBAD:=ś Ϣ;have HEB:=ś hEB;have HEO:=ś hEO;have hGB:0<w.heap.size:=World.block_lt_of_cell? w ⟨0,0,none⟩ hEB;have hGO:4<w.heap.size:=World.block_lt_of_cell? w ⟨4,0,none⟩ hEO;have hd:decide ((120:Int)<(n:Int))=false:=by simp;omega
 clear hP ϱ Ϣ hEB hEO;go_enter func133,ntmps133;go_wp2_with fail;go_loopw [3,4,11] (λ_ _ i wr=>∃k:Nat,k<=m/\i = .int .i64 k/\Below w.heap.size w wr) (λ_ _ i _=>n-(intOf i).toNat);case atStart=>exact⟨0,Nat.zero_le _,rfl,Below.refl _ _⟩
 case round=>
  obtain⟨k,hk,rfl,ϝ⟩:=hrel;by_cases ϥ:k<n
  ·obtain⟨lb,lo,rfl,Ϧ⟩:=HP.out.at k ϥ;obtain⟨c0,c1,_⟩:=Ϧ k ϥ;have Ø:lb<w.heap.size:=World.block_lt_of_cell? w ⟨lb,_,none⟩ c0;have ä:(0:Int)<=(k:Int):=by omega
   have ϒ:(k:Int)<(n:Int):=by omega
   have e0:wr.cell? ⟨lb,lo+k*2,none⟩=some (.int .i64 (T k)):=(ϝ.cell (p:=⟨lb,_,none⟩) Ø).trans c0;have e1:wr.cell? ⟨lb,lo+k*2+1,none⟩=some (.int .u64 (B k:Int)):=(ϝ.cell (p:=⟨lb,_,none⟩) Ø).trans c1;have bE:=ś ϝ;have Ô:=ϝ.size;have hlw:lb≠wr.heap.size:=by omega
   have g1:wr.cell? ⟨0,0,none⟩=some (.iface 352 (.pointer (some aB))):=(ϝ.cell (p:=⟨0,0,none⟩) hGB).trans HEB.out;have g7:wr.cell? ⟨4,0,none⟩=some (.iface 352 (.pointer (some aO))):=(ϝ.cell (p:=⟨4,0,none⟩) hGO).trans HEO.out;have hG1:0<wr.heap.size:=by omega
   have hG7:4<wr.heap.size:=by omega
   clear ϝ c0 c1;cases Œ:dQ (T k) with
   | false=>
    have ù:k=m:=by
     rcases Nat.lt_or_ge k m with h|h
     ·have:=iq.out k h;unfold iJ at this;rw[Œ] at this;cases this
     ·omega
    subst ù;have oJ:=ś Œ;have rz:Hid ((if dQ (T k)=true then aO else aB)=aB):=by show _=_;rw[Œ];rfl
    have Ö:T k < -1099511627776\/1099511627776<T k:=by
     unfold dQ at Œ;simp at Œ;omega
    clear Œ oJ Ϧ HP iq HBAD;obtain⟨t,ht⟩:∃t,T k=t:=⟨_,rfl⟩;rw[ht] at e0 Ö;have Ju:=ś ht;clear ht;generalize B k=y at *;rcases Ö with h|h
    ·have d1:decide (t < -1099511627776)=true:=decide_eq_true h;go_wp2;go_ret;exact⟨(bE.out.alloc Ô _).alloc (by simp;omega) _,.inr ⟨ϥ,wr.heap.size+1,by simp,by omega,by simp,by rw[rz.out];simp⟩⟩
    ·have d1:decide (t < -1099511627776)=false:=decide_eq_false (by omega);have d2:decide (1099511627776<t)=true:=decide_eq_true h;go_wp2;go_ret;exact⟨(bE.out.alloc Ô _).alloc (by simp;omega) _,.inr ⟨ϥ,wr.heap.size+1,by simp,by omega,by simp,by rw[rz.out];simp⟩⟩
   | true=>
    have Ê:=(kQ _).1 Œ;have d1:decide (T k < -1099511627776)=false:=decide_eq_false (by omega);have d2:decide (1099511627776<T k)=false:=decide_eq_false (by omega);by_cases hz:k=0
    ·subst hz;have φ:0<m:=by
      rcases Nat.lt_or_ge 0 m with h|h
      ·exact h
      ·exfalso;have ZJ:m=0:=by omega
       have:=HBAD.out (by omega);rw[ZJ] at this;unfold iJ at this;rw[Œ] at this;simp at this
     have e00:wr.cell? ⟨lb,lo,none⟩=some (.int .i64 (T 0)):=by simpa using e0
     have e11:wr.cell? ⟨lb,lo+1,none⟩=some (.int .u64 (B 0:Int)):=by simpa using e1
     clear Œ Ϧ e0 e1;go_wp2_with fail;go_quiet (fail);go_wp2;go_roundw;case rel=>exact⟨1,by omega,by go_num,below_drewN (bE.out.alloc Ô _) _⟩
     case measure=>simp[intOf]<;>omega
    ·obtain⟨j,rfl⟩:∃j,k=j+1:=⟨k-1,by omega⟩;have hcj:=(Ϧ j (by omega)).1;have ej:wr.cell? ⟨lb,lo+j*2,none⟩=some (.int .i64 (T j)):=(bE.out.cell (p:=⟨lb,_,none⟩) Ø).trans hcj;have î:lb<wr.heap.size:=by omega
     have ejA:∀o:Obj,(wr.alloc o).cell? ⟨lb,lo+j*2,none⟩=some (.int .i64 (T j)):=λo=>(World.cell?_alloc_lt wr o ⟨lb,_,none⟩ î).trans ej
     have ó:iJ T (j+1)=decide (T j<T (j+1)):=by unfold iJ;rw[Œ];simp
     have i1:(0:Int)<=(j:Int)+1-1:=by omega
     have i2:(j:Int)+1-1<(n:Int):=by omega
     have i3:(0:Int)<(j:Int)+1:=by omega
     by_cases ϙ:T j<T (j+1)
     ·have ù:j+1<m:=by
       rcases Nat.lt_or_ge (j+1) m with h|h
       ·exact h
       ·exfalso;have hme:m=j+1:=by omega
        have:=HBAD.out (by omega);rw[hme,ó] at this;simp at this;omega
      have ϳ:decide (T (j+1)<=T j)=false:=by simp;omega
      clear Ϧ Œ ó ϙ hcj;generalize T (j+1)=t1 at *;generalize T j=t0 at *;generalize B (j+1)=y1 at *;go_wp2_with fail;go_quiet (fail);go_wp2;go_roundw;case rel=>exact⟨j+2,by omega,by go_num,below_drewN (bE.out.alloc Ô _) _⟩
      case measure=>simp[intOf]<;>omega
     ·have ù:j+1=m:=by
       rcases Nat.lt_or_ge (j+1) m with h|h
       ·have:=iq.out (j+1) h;rw[ó] at this;simp at this;omega
       ·omega
      have ă:T (j+1)<=T j:=by omega
      have ϳ:decide (T (j+1)<=T j)=true:=by simpa using ă
      subst ù;have rz:Hid ((if dQ (T (j+1))=true then aO else aB)=aO):=by show _=_;rw[Œ];rfl
      clear Ϧ Œ ó ϙ hcj HP iq HBAD;obtain⟨t1,ÿ⟩:∃t1,T (j+1)=t1:=⟨_,rfl⟩;rw[ÿ] at e0 ϳ d1 d2 Ê ă;generalize T j=t0 at *;have Ju:=ś ÿ;clear ÿ;generalize B (j+1)=y1 at *;go_wp2_with fail;go_quiet (fail);go_wp2;go_ret;exact⟨(below_drewN (bE.out.alloc Ô _) _).alloc (by simp;omega) _,.inr ⟨ϥ,wr.heap.size+1,by simp,by omega,(OC (by show (wr.alloc _).heap.size=_;simp) 0).trans (by simp),(OC (by show (wr.alloc _).heap.size=_;simp) 1).trans (by rw[rz.out];simp)⟩⟩
  ·have ù:k=m:=by omega
   have Û:m=n:=by omega
   have Ł:(n:Int)<=(k:Int):=by omega
   have bE:=ś ϝ;clear ϝ;go_wp2;go_ret;exact⟨bE.out,.inl ⟨Û,rfl⟩⟩
def uQ(w:World)(a:Option Addr)(n:Nat)(K:Nat->Nat)(N V:Nat->ByteArray):Prop:=
 n=0\/∃b o,a=some ⟨b,o,none⟩/\∀k,k<n->w.cell? ⟨b,o+k*3,none⟩=some (.int .u8 (K k:Int))/\w.cell? ⟨b,o+k*3+1,none⟩=some (.string (N k))/\w.cell? ⟨b,o+k*3+2,none⟩=some (.string (V k))/\K k<256
theorem uQ.at{w:World}{a:Option Addr}{n:Nat}{K:Nat->Nat}{N V:Nat->ByteArray}(h:uQ w a n K N V)(k:Nat)(hk:k<n):
  ∃b o,a=some ⟨b,o,none⟩/\∀k,k<n->w.cell? ⟨b,o+k*3,none⟩=some (.int .u8 (K k:Int))/\w.cell? ⟨b,o+k*3+1,none⟩=some (.string (N k))/\w.cell? ⟨b,o+k*3+2,none⟩=some (.string (V k))/\K k<256:=by
 rcases h with h|h
 ·omega
 ·exact h
theorem uQ.below{w w':World}{a:Option Addr}{n:Nat}{K:Nat->Nat}{N V:Nat->ByteArray}(h:uQ w a n K N V)(hb:Below w.heap.size w w'):uQ w' a n K N V:=by
 rcases h with h|⟨b,o,h,hc⟩
 ·exact .inl h
 ·refine .inr ⟨b,o,h,λk hk=>?_⟩;obtain⟨h1,h2,h3,h4⟩:=hc k hk;have hl:b<w.heap.size:=World.block_lt_of_cell? w ⟨b,_,none⟩ h1;exact⟨(hb.cell (p:=⟨b,_,none⟩) hl).trans h1,(hb.cell (p:=⟨b,_,none⟩) hl).trans h2,(hb.cell (p:=⟨b,_,none⟩) hl).trans h3,h4⟩
def kindOk(k:Nat):Bool:=decide (k=61\/k=33\/k=126)
def ql(K:Nat->Nat)(N:Nat->ByteArray)(i:Nat):Bool:=kindOk (K i)&&isName (N i)
end Go.Proofs.YtololnhfgjbhjaaGreatDoor
namespace aF
def ni(N V:Nat->ByteArray)(x:ByteArray):Nat->ByteArray
 | 0=>⟨#[]⟩
 | k+1=>if ((N k).toList==x.toList)=true then V k else ni N V x k
def A9(k:Nat)(v w:ByteArray):Bool:=
 if k=33 then !(v.toList==w.toList) else if k=126 then decide (w.size<=v.size)&&((v.extract 0 w.size).toList==w.toList) else v.toList==w.toList
def rZ(N V:Nat->ByteArray)(n:Nat)(K:Nat->Nat)(X Y:Nat->ByteArray):Nat->Bool
 | 0=>true
 | k+1=>rZ N V n K X Y k&&A9 (K k) (ni N V (X k) n) (Y k)
theorem Sy(N V:Nat->ByteArray)(n:Nat)(K:Nat->Nat)(X Y:Nat->ByteArray)(k:Nat)(h:A9 (K k) (ni N V (X k) n) (Y k)=false):∀m,k<m->rZ N V n K X Y m=false
 | 0,hk=>absurd hk (by omega)
 | m+1,hk=>by
  rw[rZ];rcases Nat.lt_or_ge k m with h1|h1
  ·rw[Sy N V n K X Y k h m h1,Bool.false_and]
  ·have:k=m:=by omega
   subst this;rw[h,Bool.and_false]
end aF
namespace Go.Proofs.YtololnhfgjbhjaaGreatDoor
open Go.RowKit aF
end Go.Proofs.YtololnhfgjbhjaaGreatDoor
