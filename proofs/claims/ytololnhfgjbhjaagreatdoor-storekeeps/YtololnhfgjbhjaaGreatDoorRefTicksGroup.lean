import Derived.Test.YtololnhfgjbhjaaGreatDoorRefUnwave
import Derived.Test.YtololnhfgjbhjaaGreatDoorSlicesIn
import Derived.BigQuiet
set_option maxRecDepth 1000000
set_option maxHeartbeats 2000000
open Go.Proofs.Tryz
namespace Go.Proofs.YtololnhfgjbhjaaGreatDoor
open Go.RowKit
theorem Ř{p:Prop}(h:p):Go.RowKit.Hid p:=h
def dR(t:Int):Bool:=decide (-1099511627776<=t)&&decide (t<=1099511627776)
theorem kg(t:Int):dR t=true ↔ -1099511627776<=t/\t<=1099511627776:=by simp[dR]
def iK(T:Nat->Int)(i:Nat):Bool:=dR (T i)&&(decide (i=0)||decide (T (i-1)<T i))
theorem Rx(w:World)(a b:Option Addr)(n ca cb:Nat)(T:Nat->Int)(B:Nat->Nat)(ha:uZ w a n T B)(hb:uZ w b n T B)(hn:(n:Int)<=100000):
  Calls prog 13 #[.slice a n ca,.slice b n cb] w λe w'=>e = .returned (.bool true)/\∃q,w'=w.drewN q:=by
 have HA:Hid (uZ w a n T B):=ha;have HB:Hid (uZ w b n T B):=hb;clear ha hb;go_enter func13,ntmps13;go_wp2_with fail;go_loopw [4,5] (λs4 i wr=>s4 = .bool false/\∃k q:Nat,k<=n/\i = .int .i64 k/\wr=w.drewN q) (λ_ i _=>n-(intOf i).toNat);case atStart=>exact⟨rfl,0,0,Nat.zero_le _,rfl,rfl⟩
 case round=>
  obtain⟨rfl,k,q,hk,rfl,rfl⟩:=hrel;by_cases ϗ:k<n
  ·obtain⟨b1,o1,rfl,h1⟩:=HA.out.at k ϗ;obtain⟨b2,o2,rfl,h2⟩:=HB.out.at k ϗ;obtain⟨é,Ħ,_⟩:=h1 k ϗ;obtain⟨ć,Ŧ,_⟩:=h2 k ϗ;have è:(0:Int)<=(k:Int):=by omega
   have ϒ:(k:Int)<(n:Int):=by omega
   generalize T k=t at *;generalize B k=v at *;clear h1 h2;go_wp2_with fail;go_quiet (fail);go_wp2;go_roundw;case rel=>exact⟨rfl,k+1,_,by omega,by go_num,by first|rfl|(rw[World.drewN_drewN])⟩
   case measure=>simp[intOf]<;>omega
  ·have ņ:(n:Int)<=(k:Int):=by omega
   go_wp2;go_ret;exact⟨rfl,q,rfl⟩
open aG
theorem below_draws{b:Nat}{w w':World}(h:Below b w w')(q:Nat):Below b w (w'.drewN q):=h.trans ⟨rfl,rfl,rfl,Nat.le_refl _,λ_ _=>rfl⟩
def vg(w:World)(a:Option Addr)(n:Nat)(N V:Nat->ByteArray):Prop:=
 n=0\/∃b o,a=some ⟨b,o,none⟩/\∀k,k<n->w.cell? ⟨b,o+k*2,none⟩=some (.string (N k))/\w.cell? ⟨b,o+k*2+1,none⟩=some (.string (V k))
theorem vg.at{w:World}{a:Option Addr}{n:Nat}{N V:Nat->ByteArray}(h:vg w a n N V)(k:Nat)(hk:k<n):
  ∃b o,a=some ⟨b,o,none⟩/\∀k,k<n->w.cell? ⟨b,o+k*2,none⟩=some (.string (N k))/\w.cell? ⟨b,o+k*2+1,none⟩=some (.string (V k)):=by
 rcases h with h|h
 ·omega
 ·exact h
theorem vg.below{w w':World}{a:Option Addr}{n:Nat}{N V:Nat->ByteArray}(h:vg w a n N V)(hb:Below w.heap.size w w'):vg w' a n N V:=by
 rcases h with h|⟨b,o,h,hc⟩
 ·exact .inl h
 ·refine .inr ⟨b,o,h,λk hk=>?_⟩;obtain⟨h1,h2⟩:=hc k hk;have hl:b<w.heap.size:=World.block_lt_of_cell? w ⟨b,_,none⟩ h1;exact⟨(hb.cell (p:=⟨b,_,none⟩) hl).trans h1,(hb.cell (p:=⟨b,_,none⟩) hl).trans h2⟩
def Sy(a b:ByteArray):Bool:=Op.bytesLess a.toList b.toList||a.toList==b.toList
def kZ(N V:Nat->ByteArray)(i:Nat):Bool:=(isName (N i)&&isWord (V i))&&(decide (i=0) || !Sy (N i) (N (i-1)))
theorem nX{W:World}{C:Array Value}{t:TypeId}{s:Nat}(hs:W.heap.size=s)(i:Nat):(W.alloc (.cells C t)).cell? ⟨s,i,none⟩=C[i]?:=by
 subst hs;have hb:(W.alloc (.cells C t)).heap[W.heap.size]? = some (.cells C t (0,0)):=heap_alloc_new _ _;simp only[World.cell?,hb];exact if_neg (by decide)
def adD(w w':World)(N V:Nat->ByteArray)(m n:Nat)(aN aS:Addr)(e:Ending):Prop:=
 Below w.heap.size w w'/\((m=n/\e = .returned .nilIface)\/(m<n/\∃pb:Nat,e = .returned (.iface 126 (.pointer (some ⟨pb,0,none⟩)))/\w.heap.size<=pb/\w'.cell? ⟨pb,0,none⟩=some (.int .i64 (m:Int))/\w'.cell? ⟨pb,1,none⟩=some (.iface 352 (.pointer (some (if (isName (N m)&&isWord (V m))=true then aS else aN))))))
theorem Ry(w:World)(la:Option Addr)(c:Nat)(a:Addr)(hE:w.cell? ⟨2,0,none⟩=some (.iface 352 (.pointer (some a)))):
  Calls prog 91 #[.slice la 0 c] w λe w'=>e = .returned (.iface 352 (.pointer (some a)))/\w'=w:=by
 go_enter func91,ntmps91;go_wp2;go_ret;exact⟨rfl,rfl⟩
theorem Hq(w:World)(la:Option Addr)(n c:Nat)(hn:6<n)(ę:(n:Int)<=9223372036854775807)(a:Addr)(hE:w.cell? ⟨0,0,none⟩=some (.iface 352 (.pointer (some a)))):
  Calls prog 91 #[.slice la n c] w λe w'=>e = .returned (.iface 352 (.pointer (some a)))/\w'=w:=by
 have hd:decide ((6:Int)<(n:Int))=true:=by simp;omega
 have hd0:((n:Int)==0)=false:=by rw[beq_eq_false_iff_ne];omega
 go_enter func91,ntmps91;go_wp2;go_ret;exact⟨rfl,rfl⟩
theorem JM(w:World)(la:Option Addr)(n c:Nat)(N V:Nat->ByteArray)(hP:vg w la n N V)(ϟ:∀i,i<n->(N i).size<=1000000/\(V i).size<=1000000)(h0:1<=n)(hn:n<=6)(m:Nat)(hm:m<=n)(ϴ:∀i,i<m->kZ N V i=true)(Ϣ:m<n->kZ N V m=false)
  (aN aS:Addr) (EX:w.cell? ⟨6,0,none⟩=some (.iface 352 (.pointer (some aN)))) (hES:w.cell? ⟨3,0,none⟩=some (.iface 352 (.pointer (some aS)))) :
  Calls prog 91 #[.slice la n c] w λe w'=>adD w w' N V m n aN aS e:=by
 have HP:Hid (vg w la n N V):=hP;have iJ:=Ř ϴ;have HBAD:=Ř Ϣ;have eH:=Ř ϟ;have uG:=Ř EX;have HES:=Ř hES;have hGN:6<w.heap.size:=World.block_lt_of_cell? w ⟨6,0,none⟩ EX;have hGS:3<w.heap.size:=World.block_lt_of_cell? w ⟨3,0,none⟩ hES;have hd:decide ((6:Int)<(n:Int))=false:=by simp;omega
 have hd0:((n:Int)==0)=false:=by rw[beq_eq_false_iff_ne];omega
 clear hP ϴ Ϣ EX hES ϟ;go_enter func91,ntmps91;go_wp2_with fail;go_loopw [3,4,15] (λ_ _ i wr=>∃k:Nat,k<=m/\i = .int .i64 k/\Below w.heap.size w wr) (λ_ _ i _=>n-(intOf i).toNat);case atStart=>exact⟨0,Nat.zero_le _,rfl,Below.refl _ _⟩
 case round=>
  obtain⟨k,hk,rfl,ϛ⟩:=hrel;by_cases Ϧ:k<n
  ·obtain⟨lb,lo,rfl,Ϥ⟩:=HP.out.at k Ϧ;obtain⟨c0,c1⟩:=Ϥ k Ϧ;have Ú:lb<w.heap.size:=World.block_lt_of_cell? w ⟨lb,_,none⟩ c0;have è:(0:Int)<=(k:Int):=by omega
   have ϒ:(k:Int)<(n:Int):=by omega
   have e0:wr.cell? ⟨lb,lo+k*2,none⟩=some (.string (N k)):=(ϛ.cell (p:=⟨lb,_,none⟩) Ú).trans c0;have e1:wr.cell? ⟨lb,lo+k*2+1,none⟩=some (.string (V k)):=(ϛ.cell (p:=⟨lb,_,none⟩) Ú).trans c1;have bH:=Ř ϛ;have Ó:=ϛ.size;have hlw:lb≠wr.heap.size:=by omega
   have gN:wr.cell? ⟨6,0,none⟩=some (.iface 352 (.pointer (some aN))):=(ϛ.cell (p:=⟨6,0,none⟩) hGN).trans uG.out;have gS:wr.cell? ⟨3,0,none⟩=some (.iface 352 (.pointer (some aS))):=(ϛ.cell (p:=⟨3,0,none⟩) hGS).trans HES.out;have hG1:6<wr.heap.size:=by omega
   have hG7:3<wr.heap.size:=by omega
   have Ï:=λw0=>Ho (N k) w0 (eH.out k Ϧ).1
   have hiw:=λw0=>EW (V k) w0 (eH.out k Ϧ).2
   have õ:kZ N V k=((isName (N k)&&isWord (V k))&&(decide (k=0) || !Sy (N k) (N (k-1)))):=rfl;have rY:Hid ((if (isName (N k)&&isWord (V k))=true then aS else aN)=(if (isName (N k)&&isWord (V k))=true then aS else aN)):=rfl;obtain⟨bn,Ŏ⟩:∃bn,isName (N k)=bn:=⟨_,rfl⟩;obtain⟨bw,ÿ⟩:∃bw,isWord (V k)=bw:=⟨_,rfl⟩;rw[Ŏ] at Ï õ;rw[ÿ] at hiw õ;have qB:=Ř Ï;have Sz:=Ř hiw;have l5:=Ř õ;have HBN:=Ř Ŏ;have cK:=Ř ÿ;clear Ï hiw õ Ŏ ÿ ϛ c0 c1 rY;cases ŏ:(bn&&bw) with
   | false=>
    have Ď:k=m:=by
     rcases Nat.lt_or_ge k m with h|h
     ·have:=iJ.out k h;rw[l5.out,ŏ] at this;cases this
     ·omega
    subst Ď;have rY:Hid ((if (isName (N k)&&isWord (V k))=true then aS else aN)=aN):=by show _=_;rw[HBN.out,cK.out,ŏ];rfl
    have ì:(!bn || !bw)=true:=by revert ŏ;cases bn<;>cases bw<;>decide
    clear Ϥ ŏ;obtain⟨t1,ó⟩:∃t1,N k=t1:=⟨_,rfl⟩;obtain⟨t2,Ĺ⟩:∃t2,V k=t2:=⟨_,rfl⟩;rw[ó] at e0 qB;rw[Ĺ] at e1 Sz;have HT1:=Ř ó;have HT2:=Ř Ĺ;clear ó Ĺ;go_wp2_with fail;refine Calls.mono (qB.out _) ?_;rintro e w1 ⟨rfl,ϝ⟩;have bK:=ϝ;subst bK;cases bn with
    | false=>
     go_wp2;go_ret;exact⟨(bH.out.alloc Ó _).alloc (by simp;omega) _,.inr ⟨Ϧ,wr.heap.size+1,by simp,by omega,(nX (by simp) 0).trans (by simp),(nX (by simp) 1).trans (by rw[rY.out];simp)⟩⟩
    | true=>
     cases bw with
     | false=>
      go_wp2_with fail;refine Calls.mono (Sz.out _) ?_;rintro e w1 ⟨rfl,ϝ⟩;have bK:=ϝ;subst bK;go_wp2;go_ret;exact⟨(bH.out.alloc Ó _).alloc (by simp;omega) _,.inr ⟨Ϧ,wr.heap.size+1,by simp,by omega,(nX (by simp) 0).trans (by simp),(nX (by simp) 1).trans (by rw[rY.out];simp)⟩⟩
     | true=>simp at ì
   | true=>
    have ale:bn=true:=by revert ŏ;cases bn<;>simp
    have alf:bw=true:=by revert ŏ;cases bw<;>simp
    subst ale alf;by_cases hz:k=0
    ·subst hz;have ω:0<m:=by
      rcases Nat.lt_or_ge 0 m with h|h
      ·exact h
      ·exfalso;have ZR:m=0:=by omega
       have:=HBAD.out (by omega);rw[ZR,l5.out] at this;simp at this
     have e00:wr.cell? ⟨lb,lo,none⟩=some (.string (N 0)):=by simpa using e0
     have e11:wr.cell? ⟨lb,lo+1,none⟩=some (.string (V 0)):=by simpa using e1
     clear Ϥ e0 e1 ŏ;go_wp2_with fail;refine Calls.mono (qB.out _) ?_;rintro e w1 ⟨rfl,ϝ⟩;have bK:=ϝ;subst bK;go_wp2_with fail;refine Calls.mono (Sz.out _) ?_;rintro e w1 ⟨rfl,ϝ⟩;have bK:=ϝ;subst bK;go_wp2_with fail;go_quiet (fail);go_wp2;go_roundw;case rel=>exact⟨1,by omega,by go_num,below_draws (bH.out.alloc Ó _) _⟩
     case measure=>simp[intOf]<;>omega
    ·obtain⟨j,rfl⟩:∃j,k=j+1:=⟨k-1,by omega⟩;have hcj:=(Ϥ j (by omega)).1;have ej:wr.cell? ⟨lb,lo+j*2,none⟩=some (.string (N j)):=(bH.out.cell (p:=⟨lb,_,none⟩) Ú).trans hcj;have Ė:lb<wr.heap.size:=by omega
     have ejA:∀o:Obj,(wr.alloc o).cell? ⟨lb,lo+j*2,none⟩=some (.string (N j)):=λo=>(World.cell?_alloc_lt wr o ⟨lb,_,none⟩ Ė).trans ej
     have i1:(0:Int)<=(j:Int)+1-1:=by omega
     have i2:(j:Int)+1-1<(n:Int):=by omega
     have i3:(0:Int)<(j:Int)+1:=by omega
     have õ:kZ N V (j+1) = !Sy (N (j+1)) (N j):=by
      rw[l5.out];simp
     have ā:Sy (N (j+1)) (N j)=(Op.bytesLess (N (j+1)).toList (N j).toList||(N (j+1)).toList==(N j).toList):=rfl;cases KX:Sy (N (j+1)) (N j) with
     | false=>
      have Ď:j+1<m:=by
       rcases Nat.lt_or_ge (j+1) m with h|h
       ·exact h
       ·exfalso;have hme:m=j+1:=by omega
        have:=HBAD.out (by omega);rw[hme,õ,KX] at this;cases this
      rw[KX] at ā;have hle':=ā.symm;clear Ϥ õ KX ā ŏ hcj;generalize N (j+1)=t1 at *;generalize N j=t0 at *;generalize V (j+1)=t2 at *;go_wp2_with fail;refine Calls.mono (qB.out _) ?_;rintro e w1 ⟨rfl,ϝ⟩;have bK:=ϝ;subst bK;go_wp2_with fail;refine Calls.mono (Sz.out _) ?_;rintro e w1 ⟨rfl,ϝ⟩;have bK:=ϝ;subst bK;go_wp2_with fail;go_quiet (fail);go_wp2;go_roundw;case rel=>exact⟨j+2,by omega,by go_num,below_draws (bH.out.alloc Ó _) _⟩
      case measure=>simp[intOf]<;>omega
     | true=>
      have Ď:j+1=m:=by
       rcases Nat.lt_or_ge (j+1) m with h|h
       ·have:=iJ.out (j+1) h;rw[õ,KX] at this;cases this
       ·omega
      subst Ď;rw[KX] at ā;have hle':=ā.symm;have rY:Hid ((if (isName (N (j+1))&&isWord (V (j+1)))=true then aS else aN)=aS):=by show _=_;rw[HBN.out,cK.out];rfl
      clear Ϥ õ KX ā ŏ hcj HP iJ HBAD;obtain⟨t1,ó⟩:∃t1,N (j+1)=t1:=⟨_,rfl⟩;obtain⟨t0,Č⟩:∃t0,N j=t0:=⟨_,rfl⟩;obtain⟨t2,Ĺ⟩:∃t2,V (j+1)=t2:=⟨_,rfl⟩;rw[ó] at e0 hle' qB;rw[Č] at ej ejA hle';rw[Ĺ] at e1 Sz;clear ó Č Ĺ;go_wp2_with fail;refine Calls.mono (qB.out _) ?_;rintro e w1 ⟨rfl,ϝ⟩;have bK:=ϝ;subst bK;go_wp2_with fail;refine Calls.mono (Sz.out _) ?_;rintro e w1 ⟨rfl,ϝ⟩;have bK:=ϝ;subst bK;go_wp2_with fail;go_quiet (fail);go_wp2;go_ret;exact⟨(below_draws (bH.out.alloc Ó _) _).alloc (by simp;omega) _,.inr ⟨Ϧ,wr.heap.size+1,by simp,by omega,(nX (by show (wr.alloc _).heap.size=_;simp) 0).trans (by simp),(nX (by show (wr.alloc _).heap.size=_;simp) 1).trans (by rw[rY.out];simp)⟩⟩
  ·have Ď:k=m:=by omega
   have Û:m=n:=by omega
   have ņ:(n:Int)<=(k:Int):=by omega
   have bH:=Ř ϛ;clear ϛ;go_wp2;go_ret;exact⟨bH.out,.inl ⟨Û,rfl⟩⟩
end Go.Proofs.YtololnhfgjbhjaaGreatDoor
namespace aG
end aG
namespace Go.Proofs.YtololnhfgjbhjaaGreatDoor
open Go.RowKit aG
theorem below_drewN{b:Nat}{w w':World}(h:Below b w w')(q:Nat):Below b w (w'.drewN q):=h.trans ⟨rfl,rfl,rfl,Nat.le_refl _,λ_ _=>rfl⟩
theorem OE{W:World}{C:Array Value}{t:TypeId}{s:Nat}(hs:W.heap.size=s)(i:Nat):(W.alloc (.cells C t)).cell? ⟨s,i,none⟩=C[i]?:=by
 subst hs;have hb:(W.alloc (.cells C t)).heap[W.heap.size]? = some (.cells C t (0,0)):=heap_alloc_new _ _;simp only[World.cell?,hb];exact if_neg (by decide)
def aeP(w w':World)(T:Nat->Int)(m n:Nat)(aB aO:Addr)(e:Ending):Prop:=
 Below w.heap.size w w'/\((m=n/\e = .returned .nilIface)\/(m<n/\∃pb:Nat,e = .returned (.iface 126 (.pointer (some ⟨pb,0,none⟩)))/\w.heap.size<=pb/\w'.cell? ⟨pb,0,none⟩=some (.int .i64 (m:Int))/\w'.cell? ⟨pb,1,none⟩=some (.iface 352 (.pointer (some (if dR (T m)=true then aO else aB))))))
theorem Ul(w:World)(la:Option Addr)(n c:Nat)(hn:120<n)(ę:(n:Int)<=9223372036854775807)(a:Addr)(hE:w.cell? ⟨0,0,none⟩=some (.iface 352 (.pointer (some a)))):
  Calls prog 133 #[.slice la n c] w λe w'=>e = .returned (.iface 352 (.pointer (some a)))/\w'=w:=by
 have hd:decide ((120:Int)<(n:Int))=true:=by simp;omega
 go_enter func133,ntmps133;go_wp2;go_ret;exact⟨rfl,rfl⟩
theorem LV(w:World)(la:Option Addr)(n c:Nat)(T:Nat->Int)(B:Nat->Nat)(hP:uZ w la n T B)(hn:n<=120)(m:Nat)(hm:m<=n)(ϴ:∀i,i<m->iK T i=true)(Ϣ:m<n->iK T m=false)
  (aB aO:Addr) (hEB:w.cell? ⟨0,0,none⟩=some (.iface 352 (.pointer (some aB)))) (hEO:w.cell? ⟨4,0,none⟩=some (.iface 352 (.pointer (some aO)))) :
  Calls prog 133 #[.slice la n c] w λe w'=>aeP w w' T m n aB aO e:=by
 have HP:Hid (uZ w la n T B):=hP;have iJ:=Ř ϴ;have HBAD:=Ř Ϣ;have HEB:=Ř hEB;have HEO:=Ř hEO;have hGB:0<w.heap.size:=World.block_lt_of_cell? w ⟨0,0,none⟩ hEB;have hGO:4<w.heap.size:=World.block_lt_of_cell? w ⟨4,0,none⟩ hEO;have hd:decide ((120:Int)<(n:Int))=false:=by simp;omega
 clear hP ϴ Ϣ hEB hEO;go_enter func133,ntmps133;go_wp2_with fail;go_loopw [3,4,11] (λ_ _ i wr=>∃k:Nat,k<=m/\i = .int .i64 k/\Below w.heap.size w wr) (λ_ _ i _=>n-(intOf i).toNat);case atStart=>exact⟨0,Nat.zero_le _,rfl,Below.refl _ _⟩
 case round=>
  obtain⟨k,hk,rfl,ϛ⟩:=hrel;by_cases Ϧ:k<n
  ·obtain⟨lb,lo,rfl,Ϥ⟩:=HP.out.at k Ϧ;obtain⟨c0,c1,_⟩:=Ϥ k Ϧ;have Ú:lb<w.heap.size:=World.block_lt_of_cell? w ⟨lb,_,none⟩ c0;have è:(0:Int)<=(k:Int):=by omega
   have ϒ:(k:Int)<(n:Int):=by omega
   have e0:wr.cell? ⟨lb,lo+k*2,none⟩=some (.int .i64 (T k)):=(ϛ.cell (p:=⟨lb,_,none⟩) Ú).trans c0;have e1:wr.cell? ⟨lb,lo+k*2+1,none⟩=some (.int .u64 (B k:Int)):=(ϛ.cell (p:=⟨lb,_,none⟩) Ú).trans c1;have bH:=Ř ϛ;have Ó:=ϛ.size;have hlw:lb≠wr.heap.size:=by omega
   have g1:wr.cell? ⟨0,0,none⟩=some (.iface 352 (.pointer (some aB))):=(ϛ.cell (p:=⟨0,0,none⟩) hGB).trans HEB.out;have g7:wr.cell? ⟨4,0,none⟩=some (.iface 352 (.pointer (some aO))):=(ϛ.cell (p:=⟨4,0,none⟩) hGO).trans HEO.out;have hG1:0<wr.heap.size:=by omega
   have hG7:4<wr.heap.size:=by omega
   clear ϛ c0 c1;cases ŧ:dR (T k) with
   | false=>
    have Ď:k=m:=by
     rcases Nat.lt_or_ge k m with h|h
     ·have:=iJ.out k h;unfold iK at this;rw[ŧ] at this;cases this
     ·omega
    subst Ď;have oM:=Ř ŧ;have rY:Hid ((if dR (T k)=true then aO else aB)=aB):=by show _=_;rw[ŧ];rfl
    have Ù:T k < -1099511627776\/1099511627776<T k:=by
     unfold dR at ŧ;simp at ŧ;omega
    clear ŧ oM Ϥ HP iJ HBAD;obtain⟨t,ht⟩:∃t,T k=t:=⟨_,rfl⟩;rw[ht] at e0 Ù;have JN:=Ř ht;clear ht;generalize B k=y at *;rcases Ù with h|h
    ·have d1:decide (t < -1099511627776)=true:=decide_eq_true h;go_wp2;go_ret;exact⟨(bH.out.alloc Ó _).alloc (by simp;omega) _,.inr ⟨Ϧ,wr.heap.size+1,by simp,by omega,by simp,by rw[rY.out];simp⟩⟩
    ·have d1:decide (t < -1099511627776)=false:=decide_eq_false (by omega);have d2:decide (1099511627776<t)=true:=decide_eq_true h;go_wp2;go_ret;exact⟨(bH.out.alloc Ó _).alloc (by simp;omega) _,.inr ⟨Ϧ,wr.heap.size+1,by simp,by omega,by simp,by rw[rY.out];simp⟩⟩
   | true=>
    have Ï:=(kg _).1 ŧ;have d1:decide (T k < -1099511627776)=false:=decide_eq_false (by omega);have d2:decide (1099511627776<T k)=false:=decide_eq_false (by omega);by_cases hz:k=0
    ·subst hz;have ω:0<m:=by
      rcases Nat.lt_or_ge 0 m with h|h
      ·exact h
      ·exfalso;have ZR:m=0:=by omega
       have:=HBAD.out (by omega);rw[ZR] at this;unfold iK at this;rw[ŧ] at this;simp at this
     have e00:wr.cell? ⟨lb,lo,none⟩=some (.int .i64 (T 0)):=by simpa using e0
     have e11:wr.cell? ⟨lb,lo+1,none⟩=some (.int .u64 (B 0:Int)):=by simpa using e1
     clear ŧ Ϥ e0 e1;go_wp2_with fail;go_quiet (fail);go_wp2;go_roundw;case rel=>exact⟨1,by omega,by go_num,below_drewN (bH.out.alloc Ó _) _⟩
     case measure=>simp[intOf]<;>omega
    ·obtain⟨j,rfl⟩:∃j,k=j+1:=⟨k-1,by omega⟩;have hcj:=(Ϥ j (by omega)).1;have ej:wr.cell? ⟨lb,lo+j*2,none⟩=some (.int .i64 (T j)):=(bH.out.cell (p:=⟨lb,_,none⟩) Ú).trans hcj;have Ė:lb<wr.heap.size:=by omega
     have ejA:∀o:Obj,(wr.alloc o).cell? ⟨lb,lo+j*2,none⟩=some (.int .i64 (T j)):=λo=>(World.cell?_alloc_lt wr o ⟨lb,_,none⟩ Ė).trans ej
     have õ:iK T (j+1)=decide (T j<T (j+1)):=by unfold iK;rw[ŧ];simp
     have i1:(0:Int)<=(j:Int)+1-1:=by omega
     have i2:(j:Int)+1-1<(n:Int):=by omega
     have i3:(0:Int)<(j:Int)+1:=by omega
     by_cases ϗ:T j<T (j+1)
     ·have Ď:j+1<m:=by
       rcases Nat.lt_or_ge (j+1) m with h|h
       ·exact h
       ·exfalso;have hme:m=j+1:=by omega
        have:=HBAD.out (by omega);rw[hme,õ] at this;simp at this;omega
      have ϸ:decide (T (j+1)<=T j)=false:=by simp;omega
      clear Ϥ ŧ õ ϗ hcj;generalize T (j+1)=t1 at *;generalize T j=t0 at *;generalize B (j+1)=y1 at *;go_wp2_with fail;go_quiet (fail);go_wp2;go_roundw;case rel=>exact⟨j+2,by omega,by go_num,below_drewN (bH.out.alloc Ó _) _⟩
      case measure=>simp[intOf]<;>omega
     ·have Ď:j+1=m:=by
       rcases Nat.lt_or_ge (j+1) m with h|h
       ·have:=iJ.out (j+1) h;rw[õ] at this;simp at this;omega
       ·omega
      have ā:T (j+1)<=T j:=by omega
      have ϸ:decide (T (j+1)<=T j)=true:=by simpa using ā
      subst Ď;have rY:Hid ((if dR (T (j+1))=true then aO else aB)=aO):=by show _=_;rw[ŧ];rfl
      clear Ϥ ŧ õ ϗ hcj HP iJ HBAD;obtain⟨t1,ó⟩:∃t1,T (j+1)=t1:=⟨_,rfl⟩;rw[ó] at e0 ϸ d1 d2 Ï ā;generalize T j=t0 at *;have JN:=Ř ó;clear ó;generalize B (j+1)=y1 at *;go_wp2_with fail;go_quiet (fail);go_wp2;go_ret;exact⟨(below_drewN (bH.out.alloc Ó _) _).alloc (by simp;omega) _,.inr ⟨Ϧ,wr.heap.size+1,by simp,by omega,(OE (by show (wr.alloc _).heap.size=_;simp) 0).trans (by simp),(OE (by show (wr.alloc _).heap.size=_;simp) 1).trans (by rw[rY.out];simp)⟩⟩
  ·have Ď:k=m:=by omega
   have Û:m=n:=by omega
   have ņ:(n:Int)<=(k:Int):=by omega
   have bH:=Ř ϛ;clear ϛ;go_wp2;go_ret;exact⟨bH.out,.inl ⟨Û,rfl⟩⟩
def qM(w:World)(a:Option Addr)(n:Nat)(K:Nat->Nat)(N V:Nat->ByteArray):Prop:=
 n=0\/∃b o,a=some ⟨b,o,none⟩/\∀k,k<n->w.cell? ⟨b,o+k*3,none⟩=some (.int .u8 (K k:Int))/\w.cell? ⟨b,o+k*3+1,none⟩=some (.string (N k))/\w.cell? ⟨b,o+k*3+2,none⟩=some (.string (V k))/\K k<256
theorem qM.at{w:World}{a:Option Addr}{n:Nat}{K:Nat->Nat}{N V:Nat->ByteArray}(h:qM w a n K N V)(k:Nat)(hk:k<n):
  ∃b o,a=some ⟨b,o,none⟩/\∀k,k<n->w.cell? ⟨b,o+k*3,none⟩=some (.int .u8 (K k:Int))/\w.cell? ⟨b,o+k*3+1,none⟩=some (.string (N k))/\w.cell? ⟨b,o+k*3+2,none⟩=some (.string (V k))/\K k<256:=by
 rcases h with h|h
 ·omega
 ·exact h
theorem qM.below{w w':World}{a:Option Addr}{n:Nat}{K:Nat->Nat}{N V:Nat->ByteArray}(h:qM w a n K N V)(hb:Below w.heap.size w w'):qM w' a n K N V:=by
 rcases h with h|⟨b,o,h,hc⟩
 ·exact .inl h
 ·refine .inr ⟨b,o,h,λk hk=>?_⟩;obtain⟨h1,h2,h3,h4⟩:=hc k hk;have hl:b<w.heap.size:=World.block_lt_of_cell? w ⟨b,_,none⟩ h1;exact⟨(hb.cell (p:=⟨b,_,none⟩) hl).trans h1,(hb.cell (p:=⟨b,_,none⟩) hl).trans h2,(hb.cell (p:=⟨b,_,none⟩) hl).trans h3,h4⟩
def kindOk(k:Nat):Bool:=decide (k=61\/k=33\/k=126)
def qC(K:Nat->Nat)(N:Nat->ByteArray)(i:Nat):Bool:=kindOk (K i)&&isName (N i)
end Go.Proofs.YtololnhfgjbhjaaGreatDoor
namespace aG
def nK(N V:Nat->ByteArray)(x:ByteArray):Nat->ByteArray
 | 0=>⟨#[]⟩
 | k+1=>if ((N k).toList==x.toList)=true then V k else nK N V x k
def Bh(k:Nat)(v w:ByteArray):Bool:=
 if k=33 then !(v.toList==w.toList) else if k=126 then decide (w.size<=v.size)&&((v.extract 0 w.size).toList==w.toList) else v.toList==w.toList
def sU(N V:Nat->ByteArray)(n:Nat)(K:Nat->Nat)(X Y:Nat->ByteArray):Nat->Bool
 | 0=>true
 | k+1=>sU N V n K X Y k&&Bh (K k) (nK N V (X k) n) (Y k)
theorem SA(N V:Nat->ByteArray)(n:Nat)(K:Nat->Nat)(X Y:Nat->ByteArray)(k:Nat)(h:Bh (K k) (nK N V (X k) n) (Y k)=false):∀m,k<m->sU N V n K X Y m=false
 | 0,hk=>absurd hk (by omega)
 | m+1,hk=>by
  rw[sU];rcases Nat.lt_or_ge k m with h1|h1
  ·rw[SA N V n K X Y k h m h1,Bool.false_and]
  ·have:k=m:=by omega
   subst this;rw[h,Bool.and_false]
end aG
namespace Go.Proofs.YtololnhfgjbhjaaGreatDoor
open Go.RowKit aG
end Go.Proofs.YtololnhfgjbhjaaGreatDoor
